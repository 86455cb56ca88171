/-
  Steps.
-/
import Derived.Test.YtdnfhjfbanhhcaaGreatDoorQLBk01
import Derived.Laws.Bits64b
import Derived.Laws.BitsAllLaws
import Derived.RowKit
import Derived.IntWalk
import Derived.Laws.CopyOwn
import Derived.Laws.BytesArg
import Derived.Test.YtdnfhjfbanhhcaaGreatDoorProg
import Derived.Laws.Rows
import Derived.Laws.Tables
import Derived.Laws.StructEq
import Derived.Lib.Hide
namespace Go.Proofs.YtdnfhjfbanhhcaaGreatDoor
open Go.RowKit
def numL (l:List Nat):Nat:=l.foldl (fun a x=>a*256+x) 0
def beL (v:Nat):Nat→List Nat
 | 0=> []
 | n+1=>beL (v/256) n++[v%256]
def leL (v:Nat):Nat→List Nat
 | 0=> []
 | n+1=>v%256::leL (v/256) n
def B8 (l:List Nat):Prop:=∀x,x∈l→x<256
def Cs (w:World)(b o:Nat)(l:List Nat):Prop:=∀i,i<l.length→w.cell? ⟨b,o+i,none⟩=some (.int .u8 ((l.getD i 0:Nat):Int))
theorem B8.get {l:List Nat}(h:B8 l)(i:Nat):l.getD i 0<256:=by
 by_cases hi:i<l.length
 ·have:l.getD i 0=l[i]:=by simp[hi]
  rw[this];exact h _ (List.getElem_mem hi)
 ·have:l.getD i 0=0:=by simp[Nat.le_of_not_lt hi]
  omega
theorem B8.nil:B8 []:=by intro x h;cases h
theorem B8.append {l m:List Nat}(h:B8 l)(k:B8 m):B8 (l++m):=by
 intro x hx;rcases List.mem_append.1 hx with h1|h1
 ·exact h x h1
 ·exact k x h1
theorem B8.one {x:Nat}(h:x<256):B8 [x]:=by intro y hy;simp at hy;omega
theorem B8.take {l:List Nat}(h:B8 l)(k:Nat):B8 (l.take k):=fun x hx=>h x (List.mem_of_mem_take hx)
theorem B8.drop {l:List Nat}(h:B8 l)(k:Nat):B8 (l.drop k):=fun x hx=>h x (List.mem_of_mem_drop hx)
theorem z1b (v n:Nat):(beL v n).length=n:=by
 induction n generalizing v with
 | zero=>rfl
 | succ n ih=>simp[beL,ih]
theorem x93 (v n:Nat):B8 (beL v n):=by
 induction n generalizing v with
 | zero=>exact B8.nil
 | succ n ih=>exact(ih _).append (B8.one (Nat.mod_lt _ (by decide)))
theorem z8t (v n:Nat):(leL v n).reverse=beL v n:=by
 induction n generalizing v with
 | zero=>rfl
 | succ n ih=>simp[leL,beL,ih]
theorem x6y (v n:Nat):leL v (n+1)=leL v n++[v/256^n%256]:=by
 induction n generalizing v with
 | zero=>simp[leL]
 | succ n ih=>
  rw[leL,ih (v/256),leL,Nat.pow_succ',←Nat.div_div_eq_div_mul];rfl
theorem z8u (l:List Nat)(x:Nat):numL (l++[x])=numL l*256+x:=by simp[numL]
theorem z99 (l:List Nat)(k:Nat)(h:k<l.length):numL (l.take (k+1))=numL (l.take k)*256+l.getD k 0:=by
 have:l.take (k+1)=l.take k++[l.getD k 0]:=by
  rw[List.take_succ_eq_append_getElem h];simp[h]
 rw[this,z8u]
theorem y1p {l:List Nat}(h:B8 l):numL l<256^l.length:=by
 suffices∀(l:List Nat),B8 l.reverse→numL l.reverse<256^l.length by
  have:=this l.reverse (by simpa using h);simpa using this
 intro l
 induction l with
 | nil=>intro _;simp[numL]
 | cons x r ih=>
  intro h;rw[List.reverse_cons] at h⊢
  rw[z8u,List.length_cons,Nat.pow_succ];have h1:=ih (fun y hy=>h y (List.mem_append_left _ hy));have h2:x<256:=h x (by simp);omega
theorem y75 (v n:Nat):numL (beL v n)=v%256^n:=by
 induction n generalizing v with
 | zero=>simp[beL,numL,Nat.mod_one]
 | succ n ih=>
  rw[beL,z8u,ih,Nat.pow_succ',Nat.mod_mul];omega
theorem x13 {k:Nat}(h:k≤7):(256:Nat)^k≤72057594037927936:=by
 have:=Nat.pow_le_pow_right (n:=256) (by decide) h;omega
theorem q1d (v c:Nat)(hv:v<72057594037927936)(hc:c<256):bits .or .u64 ((v:Int)*256) (c:Int)=((v*256+c:Nat):Int):=by
 have e:((v:Int)*256)=((v*256:Nat):Int):=by omega
 rw[e,bits_or_u64_nat _ _ (by omega) (by omega),nat_join 8 _ _ (by omega) (by omega)]
theorem Cs.below {w w':World}{b o B:Nat}{l:List Nat}(h:Cs w b o l)(hb:Below B w w')(hB:b<B):Cs w' b o l:=fun i hi=>by
 rw[hb.cell (p:=⟨b,o+i,none⟩) hB];exact h i hi
theorem Cs.lt {w:World}{b o:Nat}{l:List Nat}(h:Cs w b o l)(hl:0<l.length):b<w.heap.size:=by
 have:=h 0 hl
 rcases zng b w.heap.size with h1|h1
 ·exact h1
 ·simp[World.cell?,Array.getElem?_eq_none h1] at this
theorem z2q (b o j:Nat):(⟨b,o,none⟩:Addr).add j=⟨b,o+j,none⟩:=by
 unfold Addr.add;split
 ·rename_i h;subst h;rfl
 ·rfl
def bv (l:List Nat):List Value:=l.map fun x:Nat=>Value.int .u8 (x:Int)
theorem z02 (l:List Nat):(bv l).length=l.length:=by simp[bv]
theorem y3l (l m:List Nat):bv (l++m)=bv l++bv m:=by simp[bv]
theorem y76 (l:List Nat):∀u∈bv l,u.oneCell'=true:=by
 intro u hu;simp only[bv,List.mem_map] at hu;obtain⟨x,_,rfl⟩:=hu;rfl
theorem y77 (l:List Nat)(i:Nat)(h:i<l.length):(bv l)[i]? =some (.int .u8 ((l.getD i 0:Nat):Int)):=by simp[bv,h]
theorem q3z (l:List Nat)(i x:Nat):(bv l).set i (.int .u8 (x:Int))=bv (l.set i x):=by simp[bv,List.map_set]
theorem y3m (n:Nat):List.replicate n (Value.int .u8 0)=bv (List.replicate n 0):=by simp[bv]
def Src (w:World)(a:Option Addr)(l:List Nat):Prop:=0<l.length→∃b o,a=some ⟨b,o,none⟩∧Cs w b o l
theorem Src.cells {w:World}{a:Option Addr}{l:List Nat}(h:Src w a l):0<l.length→∃ad,a=some ad∧∀j v,(bv l)[j]? =some v→w.cell? (ad.add j)=some v:=by
 intro h0;obtain⟨b,o,rfl,hc⟩:=h h0;refine⟨_,rfl,fun j v hj=> ?_⟩;have hlt:j<l.length:=by
  rcases zng j l.length with h1|h1
  ·exact h1
  ·rw[List.getElem?_eq_none (by rw[z02];exact h1)] at hj;cases hj
 rw[y77 l j hlt] at hj
 cases hj
 rw[z2q];exact hc j hlt
theorem Src.below {w w':World}{a:Option Addr}{B:Nat}{l:List Nat}(h:Src w a l)(hb:Below B w w')(hB:w.heap.size≤B):Src w' a l:=by
 intro h0;obtain⟨b,o,rfl,hc⟩:=h h0;exact⟨b,o,rfl,hc.below hb (Nat.lt_of_lt_of_le (hc.lt h0) hB)⟩
theorem Src.nil (w:World)(a:Option Addr):Src w a []:=fun h=>by cases h
theorem x6z (v k:Nat):beL v (k+1)=(v/256^k%256)::beL v k:=by
 rw[←z8t,x6y,List.reverse_append,z8t];rfl
def z2f (l:List Nat)(v s k:Nat):List Nat:=l++(List.replicate (s-k) 0++beL v k)
theorem z57 (l:List Nat)(v s k:Nat)(h:k≤s):(z2f l v s k).length=l.length+s:=by
 simp[z2f,z1b];omega
theorem y0i (l:List Nat)(v s k j:Nat)(h:k<s)(hj:j+k+1=l.length+s):(z2f l v s k).set j (v/256^k%256)=z2f l v s (k+1):=by
 unfold z2f;rw[x6z];have e:s-k=(s-(k+1))+1:=by omega
 rw[e,List.replicate_succ',List.append_assoc,List.set_append_right _ _ (by omega),List.set_append_right _ _ (by simp;omega)];have e2:j-l.length-(List.replicate (s-(k+1)) 0).length=0:=by simp;omega
 rw[e2];rfl
def Row (w:World)(g E:Nat)(l:List Nat):Prop:=w.heap[g]? =some (.cells (bv l).toArray E (0,0))
theorem z66 {w:World}{B E g n:Nat}{xs:List Value}(h:w.ownsRow B E 1 (.slice (some ⟨g,0,none⟩) n n) n xs):w.heap[g]? =some (.cells xs.toArray E (0,0)):=by
 rcases h.2 with ⟨h',_⟩|⟨g',cap,cur,h',hb,hg,hnc,hcm,hcs,htake⟩
 ·simp at h'
 ·simp only[Value.slice.injEq,Option.some.injEq,Addr.mk.injEq,and_true,true_and] at h';obtain⟨rfl,rfl⟩:=h';have e:cur.toList.take (n*1)=cur.toList:=List.take_of_length_le (by simp;omega);rw[e] at htake;rw[hg,←htake]
theorem y0j {w:World}{B E g:Nat}{l:List Nat}(h:Row w g E l)(hB:B≤g)(hm:l.length≤maxLen):w.ownsRow B E 1 (.slice (some ⟨g,0,none⟩) l.length l.length) l.length (bv l):=
 ⟨by simp[z02],.inr ⟨g,l.length,(bv l).toArray,rfl,hB,h,zlr _,hm,by simp[z02],by simp[z02,zlw]⟩⟩
theorem Row.cell {w:World}{g E:Nat}{l:List Nat}(h:Row w g E l)(i:Nat)(hi:i<l.length):w.cell? ⟨g,i,none⟩=some (.int .u8 ((l.getD i 0:Nat):Int)):=by
 have h':w.heap[g]? =some (.cells (bv l).toArray E (0,0)):=h;have:=y77 l i hi;simp only[World.cell?,h']
 simpa using this
theorem Row.frozen {w:World}{g E:Nat}{l:List Nat}(h:Row w g E l)(i:Nat):w.frozen? ⟨g,i,none⟩=false:=by
 have h':w.heap[g]? =some (.cells (bv l).toArray E (0,0)):=h;simp[World.frozen?,h']
theorem Row.lt {w:World}{g E:Nat}{l:List Nat}(h:Row w g E l):g<w.heap.size:=by
 have h':w.heap[g]? =some (.cells (bv l).toArray E (0,0)):=h
 rcases zng g w.heap.size with h1|h1
 ·exact h1
 ·rw[Array.getElem?_eq_none h1] at h';cases h'
theorem Row.set {w:World}{g E:Nat}{l:List Nat}(h:Row w g E l)(i x:Nat):Row (w.setCell ⟨g,i,none⟩ (.int .u8 (x:Int))) g E (l.set i x):=by
 have h':w.heap[g]? =some (.cells (bv l).toArray E (0,0)):=h;have:=heap_setCell_same w g i (bv l).toArray E (.int .u8 (x:Int)) h';unfold Row;rw[this,←q3z];simp
theorem Row.below {w w':World}{g E B:Nat}{l:List Nat}(h:Row w g E l)(hb:Below B w w')(hg:g<B):Row w' g E l:=(hb.block g hg).trans h
theorem z8v (L:List Nat)(off:Nat)(cs:List Nat):splice (bv L) off (bv cs)=bv (splice L off cs):=by
 simp[splice,bv,List.map_append,List.map_take,List.map_drop]
theorem z29 {α:Type}(Z X:List α):splice Z 0 X=X++Z.drop X.length:=by simp[splice]
theorem y0k (n:Nat):(madeCells (Value.int .u8 0).cells (n*1)).toList=bv (List.replicate n 0):=by
 rw[←y3m];show(madeCells #[Value.int .u8 0] (n*1)).toList=_;rw[toList_madeCells_one,Nat.mul_one]
section
variable {P:Program} {w:World} {ops:Array Oper} {rest:List Oper} {o:Oper} {a:Act} {Q:Exit→Act→World→Prop}
theorem z06 (hg:o.guard=none)(l c:Operand)(t:TypeId)(hop:o.op=Op.makeSlice t l c)
  (e:TypeId) (h1:P.underlying t=some (.slice e)) (h2:(P.info? e).map (fun i=>(i.zero,i.size,i.bytes))=some (some (.int .u8 0),1,1))
  (kl kc:IntKind) (L C:Int) (n:Nat) (hl:a.eval l=.int kl L) (hc:a.eval c=.int kc C) (hL:L=(n:Int)) (hC:C=(n:Int)) (b:n≤140737488355328)
  (hK:∀w',Hid (Row w' w.heap.size e (List.replicate n 0))→Below w.heap.size w w'→wpList P ops Q rest (a.put o.dst (.slice (some ⟨w.heap.size,0,none⟩) n n)) w'):
  wpList P ops Q (o::rest) a w:=by
 obtain⟨i0,hi,hz0,hz1,hz2⟩:=info_parts h2;refine wpList_make_full w hg l c t hop w.heap.size e i0 (.int .u8 0) 1 h1 hi hz0 hz1 kl kc L C n hl hc hL hC (by rw[hz2];omega) (by unfold maxLen;omega) (zlr _) ?_;intro w1 hown hgrow;refine hK w1 ?_ ((zbr w.heap.size w).grown hgrow (zlr _) (by intro k hk;cases hk));show w1.heap[w.heap.size]? =_;rw[←y0k];exact z66 hown
theorem z1x (hgd:o.guard=none)(d s:Operand)(dT sT:TypeId)
  (ho:o.op=.call {callee:=.builtin .copy,args:= #[d,s],argTypes:= #[dT,sT]}) (e:TypeId) (hu:P.underlying dT=some (.slice e)) (hsz:(P.info? e).map (·.size)=some 1)
  (g off dLen dCap:Nat) (sp:Option Addr) (sCap:Nat) (cur l:List Nat) (hd:a.eval d=.slice (some ⟨g,off,none⟩) dLen dCap) (hs:a.eval s=.slice sp l.length sCap)
  (hrow:Hid (Row w g e cur)) (hsrc:Src w sp l) (hfit:off+l.length≤cur.length) (hlen:l.length≤dLen) (B:Nat) (w0:World) (hb:Below B w0 w) (hBg:B≤g)
  (h:∀w',Hid (Row w' g e (splice cur off l))→Below B w0 w'→wpList P ops Q rest (a.put o.dst (goInt l.length)) w'):
  wpList P ops Q (o::rest) a w:=by
 refine wpList_copy_splice hgd d s dT sT ho e hu hsz _ sp dLen dCap l.length sCap hd hs g off (bv cur) e hrow.out (bv l) (by rw[z02];exact(Nat.min_eq_left hlen).symm) ?_ (by simpa [z02] using hfit) (y76 l) B w0 hb hBg ?_
 ·intro h0;exact⟨rfl,hsrc.cells (by rw[z02] at h0;exact h0)⟩
 ·intro w' hr hb';rw[z02];refine h w' ?_ hb';have:=hr.out;rw[z8v] at this;exact this
theorem z2z (hgd:o.guard=none)(s x:Operand)(t:TypeId)
  (ho:o.op=.call {callee:=.builtin .append,args:= #[s,x],argTypes:= #[t,t]})
  (base:Nat) (e:TypeId) (ht:P.underlying t=some (.slice e)) (h2:(P.info? e).map (fun i=>(i.zero,i.size,i.bytes))=some (some (.int .u8 0),1,1))
  (v:Value) (l:List Nat) (hs:a.eval s=v) (hown:Hid (w.ownsRow base e 1 v l.length (bv l)))
  (sp:Option Addr) (c:Nat) (m:List Nat) (hx:a.eval x=.slice sp m.length c) (hz:sp=none→c=0) (hsrc:Src w sp m)
  (hlen:l.length+m.length≤140737488355328) (hbase:base≤w.heap.size)
  (h:∀v' w',Hid (w'.ownsRow base e 1 v' (l++m).length (bv (l++m)))→Hid (w.grownBy w' v.ownBlock)→Hid (Near w v v')→wpList P ops Q rest (a.put o.dst v') w'):
  wpList P ops Q (o::rest) a w:=by
 obtain⟨i0,hi,hz0,hz1,hz2⟩:=info_parts h2
 cases sp with
 | none=>
  have hm:m=[]:=by
   cases m with
   | nil=>rfl
   | cons y r=>obtain⟨_,_,h0,_⟩:=hsrc (by simp);cases h0
  subst hm;obtain rfl:=hz rfl;refine wpList_append_own_none hgd s x t ho base e i0 1 ht hi v l.length (bv l) hs hown.out hx ?_;exact h v w (by rw[List.append_nil];exact hown) (World.grownBy.refl _ _) (.inl rfl)
 | some ad=>
  refine z2c hgd s x t ho base e i0 (.int .u8 0) 1 1 ht hi hz0 hz1 hz2 rfl (by decide) v l.length (bv l) hs hown.out ad m.length c (bv m) hx (by simp[z02]) ?_ (y76 m) (by unfold maxLen;omega) (by omega) hbase ?_
  ·intro j u hj
   rcases Nat.eq_zero_or_pos m.length with h0|h0
   ·rw[List.getElem?_eq_none (by rw[z02];omega)] at hj;cases hj
   ·obtain⟨ad',hd,hc⟩:=hsrc.cells h0
    cases hd
    exact hc j u hj
  ·intro v' w' hown' hg hn;refine h v' w' ?_ hg hn;show w'.ownsRow _ _ _ _ _ _;rw[y3l,zla];exact hown'
end
theorem z5i {P:Program}(w:World)(t e:TypeId)(h1:P.underlying t=some (.slice e))(h2:(P.info? e).map (fun i=>(i.zero,i.size,i.bytes))=some (some (.int .u8 0),1,1))(kl kc:IntKind)(n:Nat)(b:n≤140737488355328):
  ∃w',(Instr.makeSlice t (.int kl n) (.int kc n)).run P w=.ok (.slice (some ⟨w.heap.size,0,none⟩) n n) w'∧Row w' w.heap.size e (List.replicate n 0)∧Below w.heap.size w w':=by
 obtain⟨i0,hi,hz0,hz1,hz2⟩:=info_parts h2;obtain⟨w',hrun,hown,hgrow⟩:=run_make_full (P:=P) w w.heap.size t e i0 (.int .u8 0) 1 h1 hi hz0 hz1 kl kc n (by rw[hz2];omega) (by unfold maxLen;omega) (zlr _);refine⟨w',hrun,?_,(zbr w.heap.size w).grown hgrow (zlr _) (by intro k hk;cases hk)⟩;show w'.heap[w.heap.size]? =_;rw[←y0k];exact z66 hown
def bstr (l:List Nat):ByteArray:=strOfNums (l.map fun x:Nat=>(x:Int))
theorem y78 (w:World)(g E:Nat)(l:List Nat):Row w.drew g E l=Row w g E l:=rfl
theorem z58 (l:List Nat):(bstr l).size=l.length:=by unfold bstr;rw[strOfNums_size];simp
end Go.Proofs.YtdnfhjfbanhhcaaGreatDoor
namespace Go.Proofs.YtdnfhjfbanhhcaaGreatDoor
open Go.RowKit
def pol:BitVec 32:=2197175160#32
def st (x:BitVec 32):BitVec 32:=(x>>>1)^^^(if x.getLsbD 0 then pol else 0#32)
def st4 (x:BitVec 32):BitVec 32:=st (st (st (st x)))
def byt (x:BitVec 32)(c:Nat):BitVec 32:=st4 (st4 (x^^^BitVec.ofNat 32 c))
def run (x:BitVec 32)(l:List Nat):BitVec 32:=l.foldl byt x
def more (s:BitVec 32)(l:List Nat):BitVec 32:= ~~~(run (~~~s) l)
theorem q30 (x y:BitVec 32):st (x^^^y)=st x^^^st y:=by
 unfold st;rw[BitVec.ushiftRight_xor_distrib,BitVec.getLsbD_xor]
 cases x.getLsbD 0<;>cases y.getLsbD 0<;>simp
 ·ac_rfl
 ·ac_rfl
 ·rw[show x>>>1^^^pol^^^(y>>>1^^^pol)=x>>>1^^^y>>>1^^^(pol^^^pol) by ac_rfl,BitVec.xor_self,BitVec.xor_zero]
theorem q1e (x y:BitVec 32):st4 (x^^^y)=st4 x^^^st4 y:=by unfold st4;simp only[q30]
theorem y94 (x:BitVec 32)(l m:List Nat):run x (l++m)=run (run x l) m:=by simp[run]
theorem x14 (l:List Nat)(n:Nat)(h:n<l.length):l.take (n+1)=l.take n++[l.getD n 0]:=by
 rw[List.take_succ_eq_append_getElem h];simp[h]
theorem x60 (x:BitVec 32)(l:List Nat)(c:Nat):run x (l++[c])=byt (run x l) c:=by rw[y94];rfl
theorem z5n (a b:Nat)(ha:a<4294967296)(hb:b<4294967296):bits .xor .u32 (a:Int) (b:Int)=((a^^^b:Nat):Int):=by
 have hx:a^^^b<2^32:=Nat.xor_lt_two_pow (by omega) (by omega);have h1:(BitVec.ofInt 32 (a:Int)).toNat=a:=by
  rw[BitVec.ofInt_natCast,BitVec.toNat_ofNat];exact Nat.mod_eq_of_lt (by omega)
 have h2:(BitVec.ofInt 32 (b:Int)).toNat=b:=by
  rw[BitVec.ofInt_natCast,BitVec.toNat_ofNat];exact Nat.mod_eq_of_lt (by omega)
 have hw:∀n:Int,IntKind.u32.wrap n=n%4294967296:=fun n=>by simp[IntKind.wrap,IntKind.bits,IntKind.signed]
 show IntKind.u32.wrap ((BitVec.ofInt 32 (a:Int)^^^BitVec.ofInt 32 (b:Int)).toNat:Int)=_;rw[BitVec.toNat_xor,h1,h2,hw];omega
theorem x15 (a:Nat)(ha:a<4294967296):bits .and .u32 (a:Int) 15=((a%16:Nat):Int):=by
 have h1:(BitVec.ofInt 32 (a:Int)).toNat=a:=by
  rw[BitVec.ofInt_natCast,BitVec.toNat_ofNat];exact Nat.mod_eq_of_lt (by omega)
 have h2:(BitVec.ofInt 32 (15:Int)).toNat=2^4-1:=rfl;have hw:∀n:Int,IntKind.u32.wrap n=n%4294967296:=fun n=>by simp[IntKind.wrap,IntKind.bits,IntKind.signed]
 show IntKind.u32.wrap ((BitVec.ofInt 32 (a:Int)&&&BitVec.ofInt 32 15).toNat:Int)=_;rw[BitVec.toNat_and,h1,h2,Nat.and_two_pow_sub_one_eq_mod,hw];omega
theorem q31 (x y:BitVec 32):bits .xor .u32 ((x.toNat:Nat):Int) ((y.toNat:Nat):Int)=(((x^^^y).toNat:Nat):Int):=by
 rw[z5n _ _ x.isLt y.isLt,BitVec.toNat_xor]
theorem q32 (x:BitVec 32):(st x).toNat=if x.toNat%2=1 then (x.toNat/2)^^^2197175160 else x.toNat/2:=by
 unfold st;have e0:x.getLsbD 0=decide (x.toNat%2=1):=by simp[BitVec.getLsbD,Nat.testBit_zero]
 rw[e0,BitVec.toNat_xor,BitVec.toNat_ushiftRight,Nat.shiftRight_eq_div_pow]
 by_cases h:x.toNat%2=1
 ·simp only[h,decide_true,if_true];rfl
 ·simp[h]
theorem x94 (x:BitVec 32):bits .xor .u32 IntKind.u32.max ((x.toNat:Nat):Int)=(((~~~x).toNat:Nat):Int):=by
 have e:IntKind.u32.max=(((BitVec.allOnes 32).toNat:Nat):Int):=by decide
 rw[e,q31,BitVec.allOnes_xor]
def z4l:List Nat:=(List.range 16).map fun k=>(st4 (BitVec.ofNat 32 k)).toNat
theorem y95 (k:Nat)(h:k<16):z4l.getD k 0=(st4 (BitVec.ofNat 32 k)).toNat:=by simp[z4l,h]
theorem y1q (x:BitVec 32)(h:x.toNat%2=0):(st x).toNat=x.toNat/2:=by rw[q32,if_neg (by omega)]
theorem x61 (x:BitVec 32)(h:x.toNat%16=0):(st4 x).toNat=x.toNat/16:=by
 unfold st4;have h1:=y1q x (by omega);have h2:=y1q (st x) (by omega);have h3:=y1q (st (st x)) (by omega);have h4:=y1q (st (st (st x))) (by omega);omega
theorem y96 (p q:Nat)(h:q<16):q^^^p*16=p*16+q:=by
 have h1:=Nat.two_pow_add_eq_or_of_lt (i:=4) (b:=q) (by omega) p;have e2:2^4*p^^^q=2^4*p|||q:=by
  apply Nat.eq_of_testBit_eq;intro i;rw[Nat.testBit_xor,Nat.testBit_or,Nat.testBit_two_pow_mul]
  by_cases hi:4≤i
  ·have h2:(2:Nat)^4≤2^i:=Nat.pow_le_pow_right (by decide) hi;have:q.testBit i=false:=Nat.testBit_lt_two_pow (by omega);simp[this]
  ·simp[hi]
 rw[Nat.xor_comm,Nat.mul_comm p 16,show 16*p=2^4*p by omega,e2,←h1]
theorem x16 (x:BitVec 32):st4 x=st4 (BitVec.ofNat 32 (x.toNat%16))^^^BitVec.ofNat 32 (x.toNat/16):=by
 have hx:x=BitVec.ofNat 32 (x.toNat%16)^^^BitVec.ofNat 32 (x.toNat/16*16):=by
  apply BitVec.eq_of_toNat_eq;have:=x.isLt;rw[BitVec.toNat_xor,BitVec.toNat_ofNat,BitVec.toNat_ofNat,Nat.mod_eq_of_lt (a:=x.toNat%16) (by omega),Nat.mod_eq_of_lt (a:=x.toNat/16*16) (by omega),y96 _ _ (by omega)];omega
 have hh:st4 (BitVec.ofNat 32 (x.toNat/16*16))=BitVec.ofNat 32 (x.toNat/16):=by
  apply BitVec.eq_of_toNat_eq;have hx:=x.isLt;have e:(BitVec.ofNat 32 (x.toNat/16*16)).toNat=x.toNat/16*16:=by rw[BitVec.toNat_ofNat,Nat.mod_eq_of_lt (by omega)]
  rw[x61 _ (by omega),e,BitVec.toNat_ofNat,Nat.mod_eq_of_lt (by omega)];omega
 conv=>lhs;rw[hx]
 rw[q1e,hh]
theorem y97 (x:BitVec 32):bits .xor .u32 ((z4l.getD (x.toNat%16) 0:Nat):Int) ((x.toNat/16:Nat):Int)=((st4 x).toNat:Int):=by
 have hx:=x.isLt;rw[y95 _ (by omega),z5n _ _ (st4 _).isLt (by omega),x16 x,BitVec.toNat_xor];rw[BitVec.toNat_ofNat (x:=x.toNat/16),Nat.mod_eq_of_lt (a:=x.toNat/16) (by omega)]
theorem x62 (x:BitVec 32)(c:Nat)(hc:c<256):bits .xor .u32 ((x.toNat:Nat):Int) (c:Int)=(((x^^^BitVec.ofNat 32 c).toNat:Nat):Int):=by
 have hx:=x.isLt;rw[z5n _ _ x.isLt (by omega),BitVec.toNat_xor,BitVec.toNat_ofNat,Nat.mod_eq_of_lt (a:=c) (by omega)]
end Go.Proofs.YtdnfhjfbanhhcaaGreatDoor
namespace Go.Proofs.YtdnfhjfbanhhcaaGreatDoor
open Go.RowKit
def z31 (k:Nat)(l:List Nat):List Nat:=[k,0,l.length/256,l.length%256]++l++List.replicate (504-l.length) 0
def sum4 (m:List Nat):List Nat:=beL (more 0#32 m).toNat 4
def z1l (k:Nat)(l:List Nat):List Nat:=z31 k l++sum4 (z31 k l)
def z20 (l:List Nat):Bool:=l.all fun x=>x==0
def opS (b:List Nat):Nat×List Nat×Nat:=
 if b.length≠512 then (0,[],3)
 else if numL (b.drop 508)≠(more 0#32 (b.take 508)).toNat then (0,[],4)
 else if (1≤b.getD 0 0∧b.getD 0 0≤5)∧b.getD 1 0=0∧b.getD 2 0*256+b.getD 3 0≤504∧z20 ((b.take 508).drop (4+(b.getD 2 0*256+b.getD 3 0)))=true
 then (b.getD 0 0,(b.drop 4).take (b.getD 2 0*256+b.getD 3 0),0)
 else (0,[],3)
theorem z1t {k:Nat}{l:List Nat}(h:l.length≤504):(z31 k l).length=508:=by
 simp only[z31,zla,List.length_cons,List.length_nil,List.length_replicate];omega
theorem y6b (m:List Nat):(sum4 m).length=4:=z1b _ _
theorem z7t {k:Nat}{l:List Nat}(h:l.length≤504):(z1l k l).length=512:=by
 rw[z1l,zla,z1t h,y6b]
theorem q6m (n:Nat):B8 (List.replicate n 0):=fun x hx=>by
 have:=(List.mem_replicate.1 hx).2;omega
theorem y79 {k:Nat}{l:List Nat}(hk:k<256)(h:l.length≤504)(hb:B8 l):B8 (z31 k l):=by
 refine B8.append (B8.append ?_ hb) (q6m _);intro x hx;simp only[List.mem_cons,List.not_mem_nil,or_false] at hx;omega
theorem q1f (m:List Nat):B8 (sum4 m):=x93 _ _
theorem x63 {k:Nat}{l:List Nat}(hk:k<256)(h:l.length≤504)(hb:B8 l):B8 (z1l k l):=(y79 hk h hb).append (q1f _)
theorem x17 (m:List Nat):numL (sum4 m)=(more 0#32 m).toNat:=by
 rw[sum4,y75];have:=(more 0#32 m).isLt;omega
theorem y98 {k:Nat}{l:List Nat}(h:l.length≤504):(z1l k l).take 508=z31 k l:=by
 rw[z1l,List.take_append_of_le_length (by rw[z1t h];exact zlr _),List.take_of_length_le (by rw[z1t h];exact zlr _)]
theorem y99 {k:Nat}{l:List Nat}(h:l.length≤504):(z1l k l).drop 508=sum4 (z31 k l):=by
 rw[z1l,List.drop_append_of_le_length (by rw[z1t h];exact zlr _),List.drop_of_length_le (by rw[z1t h];exact zlr _),List.nil_append]
theorem z3m (k:Nat)(l:List Nat):z1l k l=k::0::l.length/256::l.length%256::(l++(List.replicate (504-l.length) 0++sum4 (z31 k l))):=by
 simp[z1l,z31]
theorem y0l (k:Nat)(l:List Nat):z31 k l=k::0::l.length/256::l.length%256::(l++List.replicate (504-l.length) 0):=by
 simp[z31]
theorem z67 (n:Nat):z20 (List.replicate n 0)=true:=by
 simp[z20]
theorem x18 (k:Nat)(l:List Nat):(z31 k l).drop (4+l.length)=List.replicate (504-l.length) 0:=by
 rw[y0l,Nat.add_comm];simp
theorem x19 (k:Nat)(l:List Nat):((z1l k l).drop 4).take l.length=l:=by
 rw[z3m];simp
theorem x64 {k:Nat}{l:List Nat}(hk1:1≤k)(hk5:k≤5)(h:l.length≤504):opS (z1l k l)=(k,l,0):=by
 unfold opS;rw[if_neg (by rw[z7t h];simp),y98 h,y99 h,x17,if_neg (by simp)];have e0:(z1l k l).getD 0 0=k:=by rw[z3m];rfl
 have e1:(z1l k l).getD 1 0=0:=by rw[z3m];rfl
 have e2:(z1l k l).getD 2 0=l.length/256:=by rw[z3m];rfl
 have e3:(z1l k l).getD 3 0=l.length%256:=by rw[z3m];rfl
 rw[e0,e1,e2,e3,show l.length/256*256+l.length%256=l.length by omega,x18,x19,z67,if_pos ⟨⟨hk1,hk5⟩,rfl,h,rfl⟩]
theorem q1g {b:List Nat}(h:b.length≠512):opS b=(0,[],3):=by unfold opS;rw[if_pos h]
theorem q1h {b:List Nat}(h:b.length=512)(hs:numL (b.drop 508)≠(more 0#32 (b.take 508)).toNat):opS b=(0,[],4):=by
 unfold opS;rw[if_neg (by omega),if_pos hs]
theorem q33 {b:List Nat}(hb:B8 b):(opS b).1<256∧B8 (opS b).2.1∧(opS b).2.2≤4:=by
 unfold opS;split
 ·exact⟨by decide,B8.nil,by decide⟩
 split
 ·exact⟨by decide,B8.nil,by decide⟩
 split
 ·exact⟨hb.get 0,(hb.drop 4).take _,Nat.zero_le _⟩
 ·exact⟨by decide,B8.nil,by decide⟩
end Go.Proofs.YtdnfhjfbanhhcaaGreatDoor
namespace Go.Proofs.YtdnfhjfbanhhcaaGreatDoor
open Go Go.RowKit
theorem z59 {P:Program}(src e dst:TypeId)(hs:P.underlying src=some (.slice e))(he:P.underlying e=some (.int .u8))(hd:P.underlying dst=some .string)(a:Option Addr)(n c:Nat)(l:List Nat)(hn:l.length=n)(w:World)(h:Src w a l):
  (convert src dst (.slice a n c)).run P w=.ok (.string (bstr l)) w:=by
 subst hn
 cases a with
 | none=>
  obtain rfl:l=[]:=by
   cases l with
   | nil=>rfl
   | cons x r=>obtain⟨_,_,h0,_⟩:=h (by simp);cases h0
  exact run_convert_bytes_nil w src e hs he 0 c dst hd
 | some x=>
  rcases Nat.eq_zero_or_pos l.length with h0|h0
  ·obtain rfl:=List.eq_nil_of_length_eq_zero h0;have hl:(loadCells x 0).run P w=.ok (([]:List Int).map (Value.int .u8)).toArray w:=by
    have:=run_loadCells_list (P:=P) w x [] (fun j v hj=>by simp at hj)
    simpa using this
   rw[show([]:List Nat).length=0 from rfl,run_convert_bytes_string w src dst e _ 0 c hs he hd,run_bytesToString w _ 0 c [] hl]
   rfl
  ·obtain⟨b,o,hx,hc⟩:=h h0
   cases hx
   refine run_convert_bytes_arg w src e hs he b o l.length c _ (by simp) (fun i hi=> ?_) dst hd;rw[hc i hi];simp[hi]
theorem z8w {w:World}{g E:Nat}{L:List Nat}(h:Row w g E L):Src w (some ⟨g,0,none⟩) L:=fun _=>⟨g,0,rfl,fun i hi=>by rw[Nat.zero_add];exact h.cell i hi⟩
theorem x2a (w:World)(E:TypeId):(w.alloc (.cells #[] E)).ownsRow w.heap.size E 1 (.slice (some ⟨w.heap.size,0,none⟩) 0 0) 0 []:=
 y0j (l:=[]) (by unfold Row;show(w.heap.push _)[w.heap.size]? =_;rw[Array.getElem?_push_size];rfl) (zlr _) (by unfold maxLen;simp)
theorem q1i (w:World)(B E:TypeId):w.ownsRow B E 1 (.slice none 0 0) 0 (bv []):=World.ownsRow_nil w B E 1
theorem y3n (l:List Nat)(k i:Nat):(l.drop k).getD i 0=l.getD (k+i) 0:=by simp[List.getD,List.getElem?_drop]
theorem y3o (l:List Nat)(k i:Nat)(h:i<k):(l.take k).getD i 0=l.getD i 0:=by simp[List.getD,h]
theorem Cs.cut {w:World}{b o:Nat}{l:List Nat}(h:Cs w b o l)(k n:Nat):Cs w b (o+k) ((l.drop k).take n):=fun i hi=>by
 rw[zlk,zld] at hi;have:=h (k+i) (by omega)
 rwa [y3o _ _ _ (by omega),y3n,Nat.add_assoc]
theorem Cs.rest {w:World}{b o:Nat}{l:List Nat}(h:Cs w b o l)(k:Nat):Cs w b (o+k) (l.drop k):=fun i hi=>by
 rw[zld] at hi;have:=h (k+i) (by omega)
 rwa [y3n,Nat.add_assoc]
theorem Cs.start {w:World}{b o:Nat}{l:List Nat}(h:Cs w b o l)(n:Nat):Cs w b o (l.take n):=fun i hi=>by
 rw[zlk] at hi;rw[y3o _ _ _ (by omega)];exact h i (by omega)
theorem Cs.src {w:World}{b o:Nat}{l:List Nat}(h:Cs w b o l):Src w (some ⟨b,o,none⟩) l:=fun _=>⟨b,o,rfl,h⟩
theorem Row.cs {w:World}{g E:Nat}{l:List Nat}(h:Row w g E l):Cs w g 0 l:=fun i hi=>by rw[Nat.zero_add];exact h.cell i hi
theorem x2b (w:World)(E:TypeId)(fr:Nat×Nat)(l:List Nat):Cs (w.alloc (.cells (bv l).toArray E fr)) w.heap.size 0 l:=fun i hi=>by
 have:=y77 l i hi;rw[Nat.zero_add,World.cell?_alloc_mark]
 simpa using this
def Blk (w:World)(b:Nat)(t:TypeId)(cs:Array Value):Prop:=w.heap[b]? =some (.cells cs t (0,0))
theorem Blk.lt {w:World}{b:Nat}{t:TypeId}{cs:Array Value}(h:Blk w b t cs):b<w.heap.size:=(zag.1 h).1
theorem Blk.below {w w':World}{b B:Nat}{t:TypeId}{cs:Array Value}(h:Blk w b t cs)(hb:Below B w w')(hg:b<B):Blk w' b t cs:=(hb.block b hg).trans h
theorem Blk.ext {w w':World}{b:Nat}{t:TypeId}{cs:Array Value}(h:Blk w b t cs)(hb:Ext w w'):Blk w' b t cs:=h.below hb h.lt
theorem Blk.turn {F:Nat→Prop}{w w':World}{b:Nat}{t:TypeId}{cs:Array Value}(h:Blk w b t cs)(ht:Turn F w w')(hF:¬F b):Blk w' b t cs:=ht.hg h hF
theorem Blk.cell {w:World}{b:Nat}{t:TypeId}{cs:Array Value}(h:Blk w b t cs)(i:Nat):w.cell? ⟨b,i,none⟩=cs[i]? :=cell_of_row w b i cs t (0,0) h
theorem Blk.fz {w:World}{b:Nat}{t:TypeId}{cs:Array Value}(h:Blk w b t cs)(i:Nat):w.frozen? ⟨b,i,none⟩=false:=frozen_of_row w b i cs t h
theorem Blk.set {w:World}{b:Nat}{t:TypeId}{cs:Array Value}(h:Blk w b t cs)(i:Nat)(v:Value):Blk (w.setCell ⟨b,i,none⟩ v) b t (cs.setIfInBounds i v):=heap_setCell_same w b i cs t v h
def ArrZ (t:TypeId)(cs:Array Value):Prop:=∀w:World,(Instr.alloc t true (.tuple #[])).run Tryz.prog w=.ok (.pointer (some ⟨w.heap.size,0,none⟩)) (w.alloc (.cells cs t))
section
variable {ops:Array Oper} {rest:List Oper} {o:Oper} {a:Act} {w:World} {K:Act→World→Prop} {Q:Exit→Act→World→Prop}
theorem x0a (t:TypeId)(x:Operand)(ho:o.op=.box t x)(cs:Array Value)(hx:a.eval x=.agg cs)
  (h:∀g w',w.heap.size≤g→Blk w' g t cs→Below w.heap.size w w'→K (a.put o.dst (.pointer (some ⟨g,0,none⟩))) w'):o.wp Tryz.prog a w K Q:=by
 have hk:=h w.heap.size (w.alloc (.cells cs t)) (zlr _) (heap_alloc_new _ _) ((zbr _ _).alloc (zlr _) _);have hr:(Instr.box t (.agg cs)).run Tryz.prog w=.ok (.pointer (some ⟨w.heap.size,0,none⟩)) (w.alloc (.cells cs t)):=rfl;unfold Oper.wp execOp;simp only[ho,hx,Sem.run_bind,Sem.run_pure,Result.andThen_ok,hr];exact hk
theorem z0q (hgd:o.guard=none)(t:TypeId)(x:Operand)(ho:o.op=.box t x)(cs:Array Value)(hx:a.eval x=.agg cs)
  (h:∀g w',w.heap.size≤g→Blk w' g t cs→Below w.heap.size w w'→wpList Tryz.prog ops Q rest (a.put o.dst (.pointer (some ⟨g,0,none⟩))) w'):wpList Tryz.prog ops Q (o::rest) a w:=
 wpList_plain hgd fun _ hK=>x0a t x ho cs hx fun g w' h1 h2 h3=>hK _ _ (h g w' h1 h2 h3)
theorem z3a (t:TypeId)(ho:o.op=.alloc t){cs:Array Value}(hz:ArrZ t cs)
  (h:∀g w',w.heap.size≤g→Blk w' g t cs→Below w.heap.size w w'→K (a.put o.dst (.pointer (some ⟨g,0,none⟩))) w'):o.wp Tryz.prog a w K Q:=by
 have hk:=h w.heap.size (w.alloc (.cells cs t)) (zlr _) (heap_alloc_new _ _) ((zbr _ _).alloc (zlr _) _);unfold Oper.wp execOp;simp only[ho,Sem.run_bind,Sem.run_pure,Result.andThen_ok,hz w];exact hk
theorem z0o (hgd:o.guard=none)(t:TypeId)(ho:o.op=.alloc t){cs:Array Value}(hz:ArrZ t cs)
  (h:∀g w',w.heap.size≤g→Blk w' g t cs→Below w.heap.size w w'→wpList Tryz.prog ops Q rest (a.put o.dst (.pointer (some ⟨g,0,none⟩))) w'):wpList Tryz.prog ops Q (o::rest) a w:=
 wpList_plain hgd fun _ hK=>z3a t ho hz fun g w' h1 h2 h3=>hK _ _ (h g w' h1 h2 h3)
end
end Go.Proofs.YtdnfhjfbanhhcaaGreatDoor
namespace Go.Proofs.YtdnfhjfbanhhcaaGreatDoor
open Go.RowKit
theorem y3p (b o c:Nat)(l:List Nat)(w:World)(h1:1≤l.length)(h8:l.length≤8)(hc:Cs w b o l)(hb:B8 l):
  Calls Tryz.prog 168 #[.slice (some ⟨b,o,none⟩) l.length c] w fun e w'=>e=.returned (.tuple #[.int .u64 (numL l),.nilIface])∧w=w':=by
 have d1:decide ((l.length:Int)<1)=false:=by simp;omega
 have d2:decide (8<(l.length:Int))=false:=by simp;omega
 have Hc:=zh hc;clear hc
 go_enter Tryz.func168,Tryz.ntmps168
 go_wp2
 go_loop [4,6,18] (fun v _ i=>∃k:Nat,k≤l.length∧i=.int .i64 k∧v=.int .u64 (numL (l.take k))) (fun _ _ i=>l.length-(intOf i).toNat)
 case atStart=>exact⟨0,Nat.zero_le _,rfl,rfl⟩
 case round=>
  obtain⟨k,hk,rfl,rfl⟩:=hrel
  by_cases hlt:k<l.length
  ·have hs:=zh (z99 l k hlt);have hcell:=Hc.out k hlt;have hx:=hb.get k;have hv:numL (l.take k)<72057594037927936:=by
    have:=y1p (hb.take k);rw[zlk,Nat.min_eq_left hk] at this;exact Nat.lt_of_lt_of_le this (x13 (by omega))
   have hor:=zh (q1d _ _ hv hx);generalize numL (l.take k)=V at*;generalize l.getD k 0=X at*;go_wp2
   go_round
   case rel=>exact⟨k+1,by omega,by go_num,by rw[hs.out,←hor.out]⟩
   case measure=>simp[intOf];omega
  ·obtain rfl:k=l.length:=by omega
   have e:l.take l.length=l:=List.take_length;rw[e];clear e;go_wp2
   go_ret2
   exact⟨rfl,rfl⟩
end Go.Proofs.YtdnfhjfbanhhcaaGreatDoor
namespace Go.Proofs.YtdnfhjfbanhhcaaGreatDoor
open Go.RowKit
def z0x (w:World):Prop:=∀j,j<16→w.cell? ⟨2,j,none⟩=some (.int .u32 ((z4l.getD j 0:Nat):Int))
theorem q1j (x:BitVec 32)(c:Nat)(w:World)(hc:c<256)(hT:z0x w):
  Calls Tryz.prog 197 #[.int .u32 (x.toNat:Nat),.int .u8 c] w fun e w'=>e=.returned (.int .u32 ((byt x c).toNat:Nat))∧w=w':=by
 have hx:=x62 x c hc;have Ht:=zh hT;clear hT;obtain⟨y,hy⟩:∃y,y=x^^^BitVec.ofNat 32 c:=⟨_,rfl⟩
 have hb:Hid (byt x c=st4 (st4 y)):=by subst hy;rfl
 rw[←hy] at hx;clear hy;generalize hX:x.toNat=X at*;generalize hY:y.toNat=Y at*;have hYl:Y<4294967296:=by have:=y.isLt;omega
 have Hy:=zh hY;clear hX hY
 go_enter Tryz.func197,Tryz.ntmps197
 go_wp2
 go_loop [0,9] (fun s i=>∃(z:BitVec 32) (k:Nat),k≤2∧i=.int .i64 k∧s=.int .u32 (z.toNat:Nat)∧(k=0→z=y)∧(k=1→z=st4 y)∧(k=2→z=st4 (st4 y))) (fun _ i=>2-(intOf i).toNat)
 case atStart=>exact⟨y,0,by omega,rfl,by rw[Hy.out],fun _=>rfl,fun h=>by omega,fun h=>by omega⟩
 case round=>
  obtain⟨z,k,hk,rfl,rfl,h0,h1,h2⟩:=hrel;have H:=zh (zai h0 (zai h1 h2));clear h0 h1 h2
  by_cases hlt:k<2
  ·have hw:=y97 z;have hcell:=Ht.out (z.toNat%16) (by omega);generalize z4l.getD (z.toNat%16) 0=V at*;have hzl:z.toNat<4294967296:=by have:=z.isLt;omega
   have hand:=x15 z.toNat hzl;have hil:z.toNat%16<16:=by omega
   have hdiv:((z.toNat/16:Nat):Int)=(z.toNat:Int)/16:=by omega
   rw[hdiv] at hw;have Hw:=zh hw;clear hw hdiv;generalize hI:z.toNat%16=I at*;generalize hZ:z.toNat=Z at*;have HZ:=zh (zai hI hZ);clear hI hZ;go_wp2
   go_round
   case rel=>exact⟨st4 z,k+1,by omega,by go_num,by rw[←Hw.out],fun h=>by omega,fun h=>by rw[H.out.1 (by omega)],fun h=>by rw[H.out.2.1 (by omega)]⟩
   case measure=>simp[intOf];omega
  ·obtain rfl:k=2:=by omega
   have e:=H.out.2.2 rfl;subst e;go_wp2;go_ret;exact⟨by rw[hb.out];rfl,rfl⟩
theorem y1r (x:BitVec 32)(l:List Nat)(k:Nat)(h:k<l.length):run x (l.take (k+1))=byt (run x (l.take k)) (l.getD k 0):=by
 rw[x14 l k h,x60]
theorem x65 (s:BitVec 32)(a:Option Addr)(c:Nat)(l:List Nat)(w:World)(hb:B8 l)(hl:l.length≤9223372036854775807)(hsrc:Src w a l)(hT:z0x w):
  Calls Tryz.prog 184 #[.int .u32 (s.toNat:Nat),.slice a l.length c] w fun e w'=>e=.returned (.int .u32 ((more s l).toNat:Nat))∧w=w':=by
 have Ht:=zh hT;have Hs:=zh hsrc;clear hT hsrc;have hn:=x94 s
 go_enter Tryz.func184,Tryz.ntmps184
 go_wp2
 go_loop [5,7,12] (fun v _ i=>∃k:Nat,k≤l.length∧i=.int .i64 k∧v=.int .u32 ((run (~~~s) (l.take k)).toNat:Nat)) (fun _ _ i=>l.length-(intOf i).toNat)
 case atStart=>exact⟨0,Nat.zero_le _,rfl,by simp[run]⟩
 case round=>
  obtain⟨k,hk,rfl,rfl⟩:=hrel
  by_cases hlt:k<l.length
  ·obtain⟨b,o,rfl,hc⟩:=Hs.out (by omega);have hcell:=hc k hlt;have hx:=hb.get k;have hstep:=zh (y1r (~~~s) l k hlt);have hadd:=q1j (run (~~~s) (l.take k)) (l.getD k 0) w hx Ht.out;clear hc;generalize run (~~~s) (l.take k)=R at*;generalize l.getD k 0=X at*
   go_wp2_with (go_at_call 197;refine hadd.mono ?_;rintro e w' ⟨rfl,rfl⟩)
   go_round
   case rel=>exact⟨k+1,by omega,by go_num,by rw[hstep.out]⟩
   case measure=>simp[intOf];omega
  ·obtain rfl:k=l.length:=by omega
   have e:l.take l.length=l:=List.take_length;rw[e];clear e;have hm:bits .xor .u32 IntKind.u32.max (((run (~~~s) l).toNat:Nat):Int)=((more s l).toNat:Nat):=x94 _;generalize run (~~~s) l=R at*;go_wp2;go_ret;exact⟨rfl,rfl⟩
theorem x2c (a:Option Addr)(c:Nat)(l:List Nat)(w:World)(hb:B8 l)(hl:l.length≤9223372036854775807)(hsrc:Src w a l)(hT:z0x w):
  Calls Tryz.prog 164 #[.slice a l.length c] w fun e w'=>e=.returned (.int .u32 ((more 0#32 l).toNat:Nat))∧w=w':=by
 have hm:=x65 0#32 a c l w hb hl hsrc hT;generalize (more 0#32 l).toNat=R at*
 go_enter Tryz.func164,Tryz.ntmps164
 go_wp2_with (go_at_call 184;refine hm.mono ?_;rintro e w' ⟨rfl,rfl⟩)
 go_ret;exact⟨rfl,rfl⟩
theorem q1k (b o c:Nat)(m t:List Nat)(w:World)(ht:t.length=4)(hl:m.length+4≤c)(hcm:c≤9223372036854775807)(hc:Cs w b o (m++t))(hb:B8 (m++t))(hT:z0x w):
  Calls Tryz.prog 167 #[.slice (some ⟨b,o,none⟩) (m.length+4:Nat) c] w fun e w'=>e=.returned (.bool (decide (numL t=(more 0#32 m).toNat)))∧w=w':=by
 have hcm':Cs w b o m:=fun i hi=>by
  have:=hc i (by rw[zla];omega)
  rwa [show(m++t).getD i 0=m.getD i 0 by simp[List.getD,List.getElem?_append_left hi]] at this
 have hct:Cs w b (o+m.length) t:=fun i hi=>by
  have:=hc (m.length+i) (by rw[zla];omega)
  rwa [show(m++t).getD (m.length+i) 0=t.getD i 0 by simp[List.getD,List.getElem?_append_right],←Nat.add_assoc] at this
 have hget:=y3p b (o+m.length) (c-m.length) t w (by omega) (by omega) hct (fun x hx=>hb x (List.mem_append_right _ hx));have hsum:=x2c (some ⟨b,o,none⟩) c m w (fun x hx=>hb x (List.mem_append_left _ hx)) (by omega) (fun _=>⟨b,o,rfl,hcm'⟩) hT;rw[ht] at hget;have hN:numL t<18446744073709551616:=by
  have:=y1p (l:=t) (fun x hx=>hb x (List.mem_append_right _ hx));rw[ht] at this;omega
 have hM:(more 0#32 m).toNat<4294967296:=by have:=(more 0#32 m).isLt;omega
 have hbeq:=zh (show((numL t:Int)==((more 0#32 m).toNat:Int))=decide (numL t=(more 0#32 m).toNat) by rw[Bool.eq_iff_iff,beq_iff_eq,decide_eq_true_iff];omega);have h1:decide ((m.length:Int)+4-4<0)=false:=by simp
 generalize (more 0#32 m).toNat=M at*;generalize numL t=N at*;have H:=zh (zai hget hsum);clear hget hsum hcm' hct hc hb
 go_enter Tryz.func167,Tryz.ntmps167
 go_wp2_with fail;refine H.out.1.mono ?_;rintro e w' ⟨rfl,rfl⟩;go_wp2_with fail;refine H.out.2.mono ?_;rintro e w' ⟨rfl,rfl⟩;go_wp2_with fail;go_ret;exact⟨by rw[←hbeq.out];rfl,rfl⟩
theorem z0x.below {w w':World}(h:z0x w)(hb:Below w.heap.size w w'):z0x w':=fun j hj=>by
 have hc:=h j hj;have hlt:2<w.heap.size:=by
  rcases zng 2 w.heap.size with h1|h1
  ·exact h1
  ·simp[World.cell?,Array.getElem?_eq_none h1] at hc
 rw[hb.cell (p:=⟨2,j,none⟩) hlt];exact hc
end Go.Proofs.YtdnfhjfbanhhcaaGreatDoor
namespace Go.Proofs.YtdnfhjfbanhhcaaGreatDoor
open Go Go.RowKit
theorem x66:(Tryz.prog.info? 5).map (fun i=>(i.zero,i.size,i.bytes))=some (some (.int .u8 0),1,1):=by kernel_rfl
def Sl (w:World)(v:Value)(l:List Nat):Prop:=(v=.slice none 0 0∧l=[])∨∃g o c,v=.slice (some ⟨g,o,none⟩) l.length c∧Cs w g o l∧l.length≤c∧c≤maxLen
theorem Sl.none (w:World):Sl w (.slice none 0 0) []:=.inl ⟨rfl,rfl⟩
theorem Sl.below {w w':World}{v:Value}{l:List Nat}{B:Nat}(h:Sl w v l)(hb:Below B w w')(hB:w.heap.size≤B):Sl w' v l:=by
 rcases h with h|⟨g,o,c,rfl,hc,h1,h2⟩
 ·exact .inl h
 ·refine .inr ⟨g,o,c,rfl,?_,h1,h2⟩
  rcases Nat.eq_zero_or_pos l.length with h0|h0
  ·intro i hi;omega
  ·exact hc.below hb (Nat.lt_of_lt_of_le (hc.lt h0) hB)
theorem Sl.arg {w:World}{v:Value}{l:List Nat}(h:Sl w v l):∃a c,v=.slice a l.length c∧Src w a l∧(a=Option.none→c=0)∧l.length≤c∧c≤maxLen:=by
 rcases h with ⟨rfl,rfl⟩|⟨g,o,c,rfl,hc,h1,h2⟩
 ·exact⟨Option.none,0,rfl,Src.nil _ _,fun _=>rfl,zlr _,by unfold maxLen;omega⟩
 ·exact⟨_,c,rfl,hc.src,(fun h=>by cases h),h1,h2⟩
theorem Sl.own {w:World}{B E:Nat}{v:Value}{l:List Nat}(h:w.ownsRow B E 1 v l.length (bv l)):Sl w v l:=by
 rcases h.2 with ⟨rfl,h0⟩|⟨g,cap,cur,rfl,hb,hg,hnc,hcm,_⟩
 ·have:l=[]:=List.eq_nil_of_length_eq_zero h0;subst this;exact .inl ⟨rfl,rfl⟩
 ·refine .inr ⟨g,0,cap,rfl,fun i hi=> ?_,hnc,hcm⟩;have:=h.cellAt i (by omega);rw[y77 l i hi] at this
  simpa using this
theorem Sl.row {w:World}{g:Nat}{l:List Nat}(h:Row w g 5 l)(hm:l.length≤maxLen):Sl w (.slice (some ⟨g,0,Option.none⟩) l.length l.length) l:=
 .inr ⟨g,0,l.length,rfl,h.cs,zlr _,hm⟩
theorem Sl.conv {w:World}{v:Value}{l:List Nat}(h:Sl w v l):(convert 46 9 v).run Tryz.prog w=.ok (.string (bstr l)) w:=by
 obtain⟨a,c,rfl,hs,_⟩:=h.arg;exact z59 46 5 9 Tryz.underlying46 Tryz.underlying5 Tryz.underlying9 a l.length c l rfl w hs
end Go.Proofs.YtdnfhjfbanhhcaaGreatDoor
