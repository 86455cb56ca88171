/-
  Steps.
-/
import Derived.Test.YtifmepiahlodhaaGreatDoorQLTd01
import Derived.Laws.Bits64b
import Derived.Laws.BitsAllLaws
import Derived.RowKit
import Derived.IntWalk
import Derived.Laws.CopyOwn
import Derived.Laws.BytesArg
import Derived.Test.YtifmepiahlodhaaGreatDoorProg
import Derived.Laws.Rows
import Derived.Laws.Tables
import Derived.Laws.StructEq
import Derived.Lib.Hide
namespace Go.Proofs.YtifmepiahlodhaaGreatDoor
open Go.RowKit
def numL (l:List Nat):Nat:=l.foldl (fun a x=>a*256+x) 0
def beL (v:Nat):Nat→List Nat
 | 0=> []
 | n+1=>beL (v/256) n++[v%256]
def leL (v:Nat):Nat→List Nat
 | 0=> []
 | n+1=>v%256::leL (v/256) n
def B8 (l:List Nat):Prop:=∀x,x∈l→x<256
def Cs (w:World)(b o:Nat)(l:List Nat):Prop:=∀i,i<l.length→w.cell? ⟨b,o+i,none⟩=some (.int .u8 ((l.getD i 0:Nat):Int))
theorem B8.get {l:List Nat}(h:B8 l)(i:Nat):l.getD i 0<256:=by
 by_cases hi:i<l.length
 ·have:l.getD i 0=l[i]:=by simp[hi]
  rw[this];exact h _ (List.getElem_mem hi)
 ·have:l.getD i 0=0:=by simp[Nat.le_of_not_lt hi]
  omega
theorem B8.nil:B8 []:=by intro x h;cases h
theorem B8.append {l m:List Nat}(h:B8 l)(k:B8 m):B8 (l++m):=by
 intro x hx;rcases List.mem_append.1 hx with h1|h1
 ·exact h x h1
 ·exact k x h1
theorem B8.one {x:Nat}(h:x<256):B8 [x]:=by intro y hy;simp at hy;omega
theorem B8.take {l:List Nat}(h:B8 l)(k:Nat):B8 (l.take k):=fun x hx=>h x (List.mem_of_mem_take hx)
theorem B8.drop {l:List Nat}(h:B8 l)(k:Nat):B8 (l.drop k):=fun x hx=>h x (List.mem_of_mem_drop hx)
theorem z1b (v n:Nat):(beL v n).length=n:=by
 induction n generalizing v with
 | zero=>rfl
 | succ n ih=>simp[beL,ih]
theorem x97 (v n:Nat):B8 (beL v n):=by
 induction n generalizing v with
 | zero=>exact B8.nil
 | succ n ih=>exact(ih _).append (B8.one (Nat.mod_lt _ (by decide)))
theorem z8r (v n:Nat):(leL v n).reverse=beL v n:=by
 induction n generalizing v with
 | zero=>rfl
 | succ n ih=>simp[leL,beL,ih]
theorem x63 (v n:Nat):leL v (n+1)=leL v n++[v/256^n%256]:=by
 induction n generalizing v with
 | zero=>simp[leL]
 | succ n ih=>
  rw[leL,ih (v/256),leL,Nat.pow_succ',←Nat.div_div_eq_div_mul];rfl
theorem z8s (l:List Nat)(x:Nat):numL (l++[x])=numL l*256+x:=by simp[numL]
theorem z98 (l:List Nat)(k:Nat)(h:k<l.length):numL (l.take (k+1))=numL (l.take k)*256+l.getD k 0:=by
 have:l.take (k+1)=l.take k++[l.getD k 0]:=by
  rw[List.take_succ_eq_append_getElem h];simp[h]
 rw[this,z8s]
theorem y1o {l:List Nat}(h:B8 l):numL l<256^l.length:=by
 suffices∀(l:List Nat),B8 l.reverse→numL l.reverse<256^l.length by
  have:=this l.reverse (by simpa using h);simpa using this
 intro l
 induction l with
 | nil=>intro _;simp[numL]
 | cons x r ih=>
  intro h;rw[List.reverse_cons] at h⊢
  rw[z8s,List.length_cons,Nat.pow_succ];have h1:=ih (fun y hy=>h y (List.mem_append_left _ hy));have h2:x<256:=h x (by simp);omega
theorem y8b (v n:Nat):numL (beL v n)=v%256^n:=by
 induction n generalizing v with
 | zero=>simp[beL,numL,Nat.mod_one]
 | succ n ih=>
  rw[beL,z8s,ih,Nat.pow_succ',Nat.mod_mul];omega
theorem x2a {k:Nat}(h:k≤7):(256:Nat)^k≤72057594037927936:=by
 have:=Nat.pow_le_pow_right (n:=256) (by decide) h;omega
theorem q1g (v c:Nat)(hv:v<72057594037927936)(hc:c<256):bits .or .u64 ((v:Int)*256) (c:Int)=((v*256+c:Nat):Int):=by
 have e:((v:Int)*256)=((v*256:Nat):Int):=by omega
 rw[e,bits_or_u64_nat _ _ (by omega) (by omega),nat_join 8 _ _ (by omega) (by omega)]
theorem Cs.below {w w':World}{b o B:Nat}{l:List Nat}(h:Cs w b o l)(hb:Below B w w')(hB:b<B):Cs w' b o l:=fun i hi=>by
 rw[hb.cell (p:=⟨b,o+i,none⟩) hB];exact h i hi
theorem Cs.lt {w:World}{b o:Nat}{l:List Nat}(h:Cs w b o l)(hl:0<l.length):b<w.heap.size:=by
 have:=h 0 hl
 rcases zng b w.heap.size with h1|h1
 ·exact h1
 ·simp[World.cell?,Array.getElem?_eq_none h1] at this
theorem z2r (b o j:Nat):(⟨b,o,none⟩:Addr).add j=⟨b,o+j,none⟩:=by
 unfold Addr.add;split
 ·rename_i h;subst h;rfl
 ·rfl
def bv (l:List Nat):List Value:=l.map fun x:Nat=>Value.int .u8 (x:Int)
theorem z02 (l:List Nat):(bv l).length=l.length:=by simp[bv]
theorem y3f (l m:List Nat):bv (l++m)=bv l++bv m:=by simp[bv]
theorem y8c (l:List Nat):∀u∈bv l,u.oneCell'=true:=by
 intro u hu;simp only[bv,List.mem_map] at hu;obtain⟨x,_,rfl⟩:=hu;rfl
theorem y3g (l:List Nat)(i:Nat)(h:i<l.length):(bv l)[i]? =some (.int .u8 ((l.getD i 0:Nat):Int)):=by simp[bv,h]
theorem x98 (l:List Nat)(i x:Nat):(bv l).set i (.int .u8 (x:Int))=bv (l.set i x):=by simp[bv,List.map_set]
theorem y3h (n:Nat):List.replicate n (Value.int .u8 0)=bv (List.replicate n 0):=by simp[bv]
def Src (w:World)(a:Option Addr)(l:List Nat):Prop:=0<l.length→∃b o,a=some ⟨b,o,none⟩∧Cs w b o l
theorem Src.cells {w:World}{a:Option Addr}{l:List Nat}(h:Src w a l):0<l.length→∃ad,a=some ad∧∀j v,(bv l)[j]? =some v→w.cell? (ad.add j)=some v:=by
 intro h0;obtain⟨b,o,rfl,hc⟩:=h h0;refine⟨_,rfl,fun j v hj=> ?_⟩;have hlt:j<l.length:=by
  rcases zng j l.length with h1|h1
  ·exact h1
  ·rw[List.getElem?_eq_none (by rw[z02];exact h1)] at hj;cases hj
 rw[y3g l j hlt] at hj
 cases hj
 rw[z2r];exact hc j hlt
theorem Src.below {w w':World}{a:Option Addr}{B:Nat}{l:List Nat}(h:Src w a l)(hb:Below B w w')(hB:w.heap.size≤B):Src w' a l:=by
 intro h0;obtain⟨b,o,rfl,hc⟩:=h h0;exact⟨b,o,rfl,hc.below hb (Nat.lt_of_lt_of_le (hc.lt h0) hB)⟩
theorem Src.nil (w:World)(a:Option Addr):Src w a []:=fun h=>by cases h
theorem x64 (v k:Nat):beL v (k+1)=(v/256^k%256)::beL v k:=by
 rw[←z8r,x63,List.reverse_append,z8r];rfl
def z2f (l:List Nat)(v s k:Nat):List Nat:=l++(List.replicate (s-k) 0++beL v k)
theorem z5z (l:List Nat)(v s k:Nat)(h:k≤s):(z2f l v s k).length=l.length+s:=by
 simp[z2f,z1b];omega
theorem y0h (l:List Nat)(v s k j:Nat)(h:k<s)(hj:j+k+1=l.length+s):(z2f l v s k).set j (v/256^k%256)=z2f l v s (k+1):=by
 unfold z2f;rw[x64];have e:s-k=(s-(k+1))+1:=by omega
 rw[e,List.replicate_succ',List.append_assoc,List.set_append_right _ _ (by omega),List.set_append_right _ _ (by simp;omega)];have e2:j-l.length-(List.replicate (s-(k+1)) 0).length=0:=by simp;omega
 rw[e2];rfl
def Row (w:World)(g E:Nat)(l:List Nat):Prop:=w.heap[g]? =some (.cells (bv l).toArray E (0,0))
theorem z6z {w:World}{B E g n:Nat}{xs:List Value}(h:w.ownsRow B E 1 (.slice (some ⟨g,0,none⟩) n n) n xs):w.heap[g]? =some (.cells xs.toArray E (0,0)):=by
 rcases h.2 with ⟨h',_⟩|⟨g',cap,cur,h',hb,hg,hnc,hcm,hcs,htake⟩
 ·simp at h'
 ·simp only[Value.slice.injEq,Option.some.injEq,Addr.mk.injEq,and_true,true_and] at h';obtain⟨rfl,rfl⟩:=h';have e:cur.toList.take (n*1)=cur.toList:=List.take_of_length_le (by simp;omega);rw[e] at htake;rw[hg,←htake]
theorem y0i {w:World}{B E g:Nat}{l:List Nat}(h:Row w g E l)(hB:B≤g)(hm:l.length≤maxLen):w.ownsRow B E 1 (.slice (some ⟨g,0,none⟩) l.length l.length) l.length (bv l):=
 ⟨by simp[z02],.inr ⟨g,l.length,(bv l).toArray,rfl,hB,h,zlr _,hm,by simp[z02],by simp[z02,zlw]⟩⟩
theorem Row.cell {w:World}{g E:Nat}{l:List Nat}(h:Row w g E l)(i:Nat)(hi:i<l.length):w.cell? ⟨g,i,none⟩=some (.int .u8 ((l.getD i 0:Nat):Int)):=by
 have h':w.heap[g]? =some (.cells (bv l).toArray E (0,0)):=h;have:=y3g l i hi;simp only[World.cell?,h']
 simpa using this
theorem Row.frozen {w:World}{g E:Nat}{l:List Nat}(h:Row w g E l)(i:Nat):w.frozen? ⟨g,i,none⟩=false:=by
 have h':w.heap[g]? =some (.cells (bv l).toArray E (0,0)):=h;simp[World.frozen?,h']
theorem Row.lt {w:World}{g E:Nat}{l:List Nat}(h:Row w g E l):g<w.heap.size:=by
 have h':w.heap[g]? =some (.cells (bv l).toArray E (0,0)):=h
 rcases zng g w.heap.size with h1|h1
 ·exact h1
 ·rw[Array.getElem?_eq_none h1] at h';cases h'
theorem Row.set {w:World}{g E:Nat}{l:List Nat}(h:Row w g E l)(i x:Nat):Row (w.setCell ⟨g,i,none⟩ (.int .u8 (x:Int))) g E (l.set i x):=by
 have h':w.heap[g]? =some (.cells (bv l).toArray E (0,0)):=h;have:=heap_setCell_same w g i (bv l).toArray E (.int .u8 (x:Int)) h';unfold Row;rw[this,←x98];simp
theorem Row.below {w w':World}{g E B:Nat}{l:List Nat}(h:Row w g E l)(hb:Below B w w')(hg:g<B):Row w' g E l:=(hb.block g hg).trans h
theorem z8t (L:List Nat)(off:Nat)(cs:List Nat):splice (bv L) off (bv cs)=bv (splice L off cs):=by
 simp[splice,bv,List.map_append,List.map_take,List.map_drop]
theorem z28 {α:Type}(Z X:List α):splice Z 0 X=X++Z.drop X.length:=by simp[splice]
theorem y0j (n:Nat):(madeCells (Value.int .u8 0).cells (n*1)).toList=bv (List.replicate n 0):=by
 rw[←y3h];show(madeCells #[Value.int .u8 0] (n*1)).toList=_;rw[toList_madeCells_one,Nat.mul_one]
section
variable {P:Program} {w:World} {ops:Array Oper} {rest:List Oper} {o:Oper} {a:Act} {Q:Exit→Act→World→Prop}
theorem z06 (hg:o.guard=none)(l c:Operand)(t:TypeId)(hop:o.op=Op.makeSlice t l c)
  (e:TypeId) (h1:P.underlying t=some (.slice e)) (h2:(P.info? e).map (fun i=>(i.zero,i.size,i.bytes))=some (some (.int .u8 0),1,1))
  (kl kc:IntKind) (L C:Int) (n:Nat) (hl:a.eval l=.int kl L) (hc:a.eval c=.int kc C) (hL:L=(n:Int)) (hC:C=(n:Int)) (b:n≤140737488355328)
  (hK:∀w',Hid (Row w' w.heap.size e (List.replicate n 0))→Below w.heap.size w w'→wpList P ops Q rest (a.put o.dst (.slice (some ⟨w.heap.size,0,none⟩) n n)) w'):
  wpList P ops Q (o::rest) a w:=by
 obtain⟨i0,hi,hz0,hz1,hz2⟩:=info_parts h2;refine wpList_make_full w hg l c t hop w.heap.size e i0 (.int .u8 0) 1 h1 hi hz0 hz1 kl kc L C n hl hc hL hC (by rw[hz2];omega) (by unfold maxLen;omega) (zlr _) ?_;intro w1 hown hgrow;refine hK w1 ?_ ((zbr w.heap.size w).grown hgrow (zlr _) (by intro k hk;cases hk));show w1.heap[w.heap.size]? =_;rw[←y0j];exact z6z hown
theorem z1w (hgd:o.guard=none)(d s:Operand)(dT sT:TypeId)
  (ho:o.op=.call {callee:=.builtin .copy,args:= #[d,s],argTypes:= #[dT,sT]}) (e:TypeId) (hu:P.underlying dT=some (.slice e)) (hsz:(P.info? e).map (·.size)=some 1)
  (g off dLen dCap:Nat) (sp:Option Addr) (sCap:Nat) (cur l:List Nat) (hd:a.eval d=.slice (some ⟨g,off,none⟩) dLen dCap) (hs:a.eval s=.slice sp l.length sCap)
  (hrow:Hid (Row w g e cur)) (hsrc:Src w sp l) (hfit:off+l.length≤cur.length) (hlen:l.length≤dLen) (B:Nat) (w0:World) (hb:Below B w0 w) (hBg:B≤g)
  (h:∀w',Hid (Row w' g e (splice cur off l))→Below B w0 w'→wpList P ops Q rest (a.put o.dst (goInt l.length)) w'):
  wpList P ops Q (o::rest) a w:=by
 refine wpList_copy_splice hgd d s dT sT ho e hu hsz _ sp dLen dCap l.length sCap hd hs g off (bv cur) e hrow.out (bv l) (by rw[z02];exact(Nat.min_eq_left hlen).symm) ?_ (by simpa [z02] using hfit) (y8c l) B w0 hb hBg ?_
 ·intro h0;exact⟨rfl,hsrc.cells (by rw[z02] at h0;exact h0)⟩
 ·intro w' hr hb';rw[z02];refine h w' ?_ hb';have:=hr.out;rw[z8t] at this;exact this
theorem z16 (hgd:o.guard=none)(s x:Operand)(t:TypeId)
  (ho:o.op=.call {callee:=.builtin .append,args:= #[s,x],argTypes:= #[t,t]})
  (base:Nat) (e:TypeId) (ht:P.underlying t=some (.slice e)) (h2:(P.info? e).map (fun i=>(i.zero,i.size,i.bytes))=some (some (.int .u8 0),1,1))
  (v:Value) (l:List Nat) (hs:a.eval s=v) (hown:Hid (w.ownsRow base e 1 v l.length (bv l)))
  (sp:Option Addr) (c:Nat) (m:List Nat) (hx:a.eval x=.slice sp m.length c) (hz:sp=none→c=0) (hsrc:Src w sp m)
  (hlen:l.length+m.length≤140737488355328) (hbase:base≤w.heap.size)
  (h:∀v' w',Hid (w'.ownsRow base e 1 v' (l++m).length (bv (l++m)))→Hid (w.grownBy w' v.ownBlock)→Hid (Near w v v')→wpList P ops Q rest (a.put o.dst v') w'):
  wpList P ops Q (o::rest) a w:=by
 obtain⟨i0,hi,hz0,hz1,hz2⟩:=info_parts h2
 cases sp with
 | none=>
  have hm:m=[]:=by
   cases m with
   | nil=>rfl
   | cons y r=>obtain⟨_,_,h0,_⟩:=hsrc (by simp);cases h0
  subst hm;obtain rfl:=hz rfl;refine wpList_append_own_none hgd s x t ho base e i0 1 ht hi v l.length (bv l) hs hown.out hx ?_;exact h v w (by rw[List.append_nil];exact hown) (World.grownBy.refl _ _) (.inl rfl)
 | some ad=>
  refine z2c hgd s x t ho base e i0 (.int .u8 0) 1 1 ht hi hz0 hz1 hz2 rfl (by decide) v l.length (bv l) hs hown.out ad m.length c (bv m) hx (by simp[z02]) ?_ (y8c m) (by unfold maxLen;omega) (by omega) hbase ?_
  ·intro j u hj
   rcases Nat.eq_zero_or_pos m.length with h0|h0
   ·rw[List.getElem?_eq_none (by rw[z02];omega)] at hj;cases hj
   ·obtain⟨ad',hd,hc⟩:=hsrc.cells h0
    cases hd
    exact hc j u hj
  ·intro v' w' hown' hg hn;refine h v' w' ?_ hg hn;show w'.ownsRow _ _ _ _ _ _;rw[y3f,zla];exact hown'
end
theorem z5d {P:Program}(w:World)(t e:TypeId)(h1:P.underlying t=some (.slice e))(h2:(P.info? e).map (fun i=>(i.zero,i.size,i.bytes))=some (some (.int .u8 0),1,1))(kl kc:IntKind)(n:Nat)(b:n≤140737488355328):
  ∃w',(Instr.makeSlice t (.int kl n) (.int kc n)).run P w=.ok (.slice (some ⟨w.heap.size,0,none⟩) n n) w'∧Row w' w.heap.size e (List.replicate n 0)∧Below w.heap.size w w':=by
 obtain⟨i0,hi,hz0,hz1,hz2⟩:=info_parts h2;obtain⟨w',hrun,hown,hgrow⟩:=run_make_full (P:=P) w w.heap.size t e i0 (.int .u8 0) 1 h1 hi hz0 hz1 kl kc n (by rw[hz2];omega) (by unfold maxLen;omega) (zlr _);refine⟨w',hrun,?_,(zbr w.heap.size w).grown hgrow (zlr _) (by intro k hk;cases hk)⟩;show w'.heap[w.heap.size]? =_;rw[←y0j];exact z6z hown
def bstr (l:List Nat):ByteArray:=strOfNums (l.map fun x:Nat=>(x:Int))
theorem y8d (w:World)(g E:Nat)(l:List Nat):Row w.drew g E l=Row w g E l:=rfl
theorem z50 (l:List Nat):(bstr l).size=l.length:=by unfold bstr;rw[strOfNums_size];simp
end Go.Proofs.YtifmepiahlodhaaGreatDoor
namespace Go.Proofs.YtifmepiahlodhaaGreatDoor
open Go.RowKit
def pol:BitVec 32:=2197175160#32
def st (x:BitVec 32):BitVec 32:=(x>>>1)^^^(if x.getLsbD 0 then pol else 0#32)
def st4 (x:BitVec 32):BitVec 32:=st (st (st (st x)))
def byt (x:BitVec 32)(c:Nat):BitVec 32:=st4 (st4 (x^^^BitVec.ofNat 32 c))
def run (x:BitVec 32)(l:List Nat):BitVec 32:=l.foldl byt x
def more (s:BitVec 32)(l:List Nat):BitVec 32:= ~~~(run (~~~s) l)
theorem x99 (x y:BitVec 32):st (x^^^y)=st x^^^st y:=by
 unfold st;rw[BitVec.ushiftRight_xor_distrib,BitVec.getLsbD_xor]
 cases x.getLsbD 0<;>cases y.getLsbD 0<;>simp
 ·ac_rfl
 ·ac_rfl
 ·rw[show x>>>1^^^pol^^^(y>>>1^^^pol)=x>>>1^^^y>>>1^^^(pol^^^pol) by ac_rfl,BitVec.xor_self,BitVec.xor_zero]
theorem q1h (x:BitVec 32)(h:st x=0#32):x=0#32:=by
 unfold st at h;have e0:x.getLsbD 0=decide (x.toNat%2=1):=by simp[BitVec.getLsbD,Nat.testBit_zero]
 rw[e0] at h
 by_cases h1:x.toNat%2=1
 ·simp only[h1,decide_true,if_true] at h;have h2:=congrArg (· ^^^pol) h;simp only[BitVec.xor_assoc,BitVec.xor_self,BitVec.xor_zero,BitVec.zero_xor] at h2;have h3:=congrArg BitVec.toNat h2;rw[BitVec.toNat_ushiftRight,Nat.shiftRight_eq_div_pow] at h3;have h4:pol.toNat=2197175160:=rfl;have:=x.isLt;omega
 ·simp only[h1,decide_false] at h;have h3:=congrArg BitVec.toNat h;simp[Nat.shiftRight_eq_div_pow] at h3;apply BitVec.eq_of_toNat_eq;show x.toNat=0;omega
theorem y57 {x y:BitVec 32}(h:x^^^y=0#32):x=y:=by
 have:=congrArg (· ^^^y) h
 simpa [BitVec.xor_assoc] using this
theorem y8e {x y:BitVec 32}(h:st x=st y):x=y:=by
 apply y57;apply q1h;rw[x99,h,BitVec.xor_self]
theorem x2b {x y:BitVec 32}(h:st4 x=st4 y):x=y:=y8e (y8e (y8e (y8e h)))
theorem q1i (x y:BitVec 32):st4 (x^^^y)=st4 x^^^st4 y:=by unfold st4;simp only[x99]
theorem x2c {x y:BitVec 32}{c d:Nat}(h:byt x c=byt y d):x^^^BitVec.ofNat 32 c=y^^^BitVec.ofNat 32 d:=x2b (x2b h)
theorem x65 {x y:BitVec 32}{c:Nat}(h:byt x c=byt y c):x=y:=by
 have:=congrArg (· ^^^BitVec.ofNat 32 c) (x2c h)
 simpa [BitVec.xor_assoc] using this
theorem q1j (l:List Nat){x y:BitVec 32}(h:run x l=run y l):x=y:=by
 induction l generalizing x y with
 | nil=>exact h
 | cons c r ih=>exact x65 (ih (x:=byt x c) (y:=byt y c) h)
theorem z60 (x:BitVec 32)(l m:List Nat):run x (l++m)=run (run x l) m:=by simp[run]
theorem q1k {x y:BitVec 32}(h: ~~~x= ~~~y):x=y:=by
 have:=congrArg (~~~ ·) h
 simpa using this
theorem x66 (s:BitVec 32)(l:List Nat)(i c:Nat)(hi:i<l.length)(hb:B8 l)(hc:c<256)(hne:c≠l.getD i 0):more s (l.set i c)≠more s l:=by
 intro h;have h1:=q1k h;have e1:l.set i c=l.take i++c::l.drop (i+1):=List.set_eq_take_append_cons_drop ..|>.trans (by rw[if_pos hi]);have e2:l=l.take i++l.getD i 0::l.drop (i+1):=by
  have:l.getD i 0=l[i]:=by simp[hi]
  rw[this,List.getElem_cons_drop,List.take_append_drop]
 rw[e1] at h1;rw[show run (~~~s) l=run (~~~s) (l.take i++l.getD i 0::l.drop (i+1)) by rw[←e2]] at h1;rw[z60,z60] at h1;have h2:run (byt (run (~~~s) (l.take i)) c) (l.drop (i+1))=run (byt (run (~~~s) (l.take i)) (l.getD i 0)) (l.drop (i+1)):=h1;have h3:=x2c (q1j _ h2);have h4:=congrArg (run (~~~s) (l.take i)^^^ ·) h3;simp only[←BitVec.xor_assoc,BitVec.xor_self,BitVec.zero_xor] at h4;have h5:=congrArg BitVec.toNat h4;have:=hb.get i;rw[BitVec.toNat_ofNat,BitVec.toNat_ofNat,Nat.mod_eq_of_lt (by omega),Nat.mod_eq_of_lt (by omega)] at h5;exact hne h5
theorem x2d (l:List Nat)(n:Nat)(h:n<l.length):l.take (n+1)=l.take n++[l.getD n 0]:=by
 rw[List.take_succ_eq_append_getElem h];simp[h]
theorem x67 (x:BitVec 32)(l:List Nat)(c:Nat):run x (l++[c])=byt (run x l) c:=by rw[z60];rfl
theorem z5i (a b:Nat)(ha:a<4294967296)(hb:b<4294967296):bits .xor .u32 (a:Int) (b:Int)=((a^^^b:Nat):Int):=by
 have hx:a^^^b<2^32:=Nat.xor_lt_two_pow (by omega) (by omega);have h1:(BitVec.ofInt 32 (a:Int)).toNat=a:=by
  rw[BitVec.ofInt_natCast,BitVec.toNat_ofNat];exact Nat.mod_eq_of_lt (by omega)
 have h2:(BitVec.ofInt 32 (b:Int)).toNat=b:=by
  rw[BitVec.ofInt_natCast,BitVec.toNat_ofNat];exact Nat.mod_eq_of_lt (by omega)
 have hw:∀n:Int,IntKind.u32.wrap n=n%4294967296:=fun n=>by simp[IntKind.wrap,IntKind.bits,IntKind.signed]
 show IntKind.u32.wrap ((BitVec.ofInt 32 (a:Int)^^^BitVec.ofInt 32 (b:Int)).toNat:Int)=_;rw[BitVec.toNat_xor,h1,h2,hw];omega
theorem x2e (a:Nat)(ha:a<4294967296):bits .and .u32 (a:Int) 15=((a%16:Nat):Int):=by
 have h1:(BitVec.ofInt 32 (a:Int)).toNat=a:=by
  rw[BitVec.ofInt_natCast,BitVec.toNat_ofNat];exact Nat.mod_eq_of_lt (by omega)
 have h2:(BitVec.ofInt 32 (15:Int)).toNat=2^4-1:=rfl;have hw:∀n:Int,IntKind.u32.wrap n=n%4294967296:=fun n=>by simp[IntKind.wrap,IntKind.bits,IntKind.signed]
 show IntKind.u32.wrap ((BitVec.ofInt 32 (a:Int)&&&BitVec.ofInt 32 15).toNat:Int)=_;rw[BitVec.toNat_and,h1,h2,Nat.and_two_pow_sub_one_eq_mod,hw];omega
theorem q38 (x y:BitVec 32):bits .xor .u32 ((x.toNat:Nat):Int) ((y.toNat:Nat):Int)=(((x^^^y).toNat:Nat):Int):=by
 rw[z5i _ _ x.isLt y.isLt,BitVec.toNat_xor]
theorem q39 (x:BitVec 32):(st x).toNat=if x.toNat%2=1 then (x.toNat/2)^^^2197175160 else x.toNat/2:=by
 unfold st;have e0:x.getLsbD 0=decide (x.toNat%2=1):=by simp[BitVec.getLsbD,Nat.testBit_zero]
 rw[e0,BitVec.toNat_xor,BitVec.toNat_ushiftRight,Nat.shiftRight_eq_div_pow]
 by_cases h:x.toNat%2=1
 ·simp only[h,decide_true,if_true];rfl
 ·simp[h]
theorem q0a (x:BitVec 32):bits .xor .u32 IntKind.u32.max ((x.toNat:Nat):Int)=(((~~~x).toNat:Nat):Int):=by
 have e:IntKind.u32.max=(((BitVec.allOnes 32).toNat:Nat):Int):=by decide
 rw[e,q38,BitVec.allOnes_xor]
def z4m:List Nat:=(List.range 16).map fun k=>(st4 (BitVec.ofNat 32 k)).toNat
theorem x0a (k:Nat)(h:k<16):z4m.getD k 0=(st4 (BitVec.ofNat 32 k)).toNat:=by simp[z4m,h]
theorem y1p (x:BitVec 32)(h:x.toNat%2=0):(st x).toNat=x.toNat/2:=by rw[q39,if_neg (by omega)]
theorem x68 (x:BitVec 32)(h:x.toNat%16=0):(st4 x).toNat=x.toNat/16:=by
 unfold st4;have h1:=y1p x (by omega);have h2:=y1p (st x) (by omega);have h3:=y1p (st (st x)) (by omega);have h4:=y1p (st (st (st x))) (by omega);omega
theorem x0b (p q:Nat)(h:q<16):q^^^p*16=p*16+q:=by
 have h1:=Nat.two_pow_add_eq_or_of_lt (i:=4) (b:=q) (by omega) p;have e2:2^4*p^^^q=2^4*p|||q:=by
  apply Nat.eq_of_testBit_eq;intro i;rw[Nat.testBit_xor,Nat.testBit_or,Nat.testBit_two_pow_mul]
  by_cases hi:4≤i
  ·have h2:(2:Nat)^4≤2^i:=Nat.pow_le_pow_right (by decide) hi;have:q.testBit i=false:=Nat.testBit_lt_two_pow (by omega);simp[this]
  ·simp[hi]
 rw[Nat.xor_comm,Nat.mul_comm p 16,show 16*p=2^4*p by omega,e2,←h1]
theorem x2f (x:BitVec 32):st4 x=st4 (BitVec.ofNat 32 (x.toNat%16))^^^BitVec.ofNat 32 (x.toNat/16):=by
 have hx:x=BitVec.ofNat 32 (x.toNat%16)^^^BitVec.ofNat 32 (x.toNat/16*16):=by
  apply BitVec.eq_of_toNat_eq;have:=x.isLt;rw[BitVec.toNat_xor,BitVec.toNat_ofNat,BitVec.toNat_ofNat,Nat.mod_eq_of_lt (a:=x.toNat%16) (by omega),Nat.mod_eq_of_lt (a:=x.toNat/16*16) (by omega),x0b _ _ (by omega)];omega
 have hh:st4 (BitVec.ofNat 32 (x.toNat/16*16))=BitVec.ofNat 32 (x.toNat/16):=by
  apply BitVec.eq_of_toNat_eq;have hx:=x.isLt;have e:(BitVec.ofNat 32 (x.toNat/16*16)).toNat=x.toNat/16*16:=by rw[BitVec.toNat_ofNat,Nat.mod_eq_of_lt (by omega)]
  rw[x68 _ (by omega),e,BitVec.toNat_ofNat,Nat.mod_eq_of_lt (by omega)];omega
 conv=>lhs;rw[hx]
 rw[q1i,hh]
theorem x0c (x:BitVec 32):bits .xor .u32 ((z4m.getD (x.toNat%16) 0:Nat):Int) ((x.toNat/16:Nat):Int)=((st4 x).toNat:Int):=by
 have hx:=x.isLt;rw[x0a _ (by omega),z5i _ _ (st4 _).isLt (by omega),x2f x,BitVec.toNat_xor];rw[BitVec.toNat_ofNat (x:=x.toNat/16),Nat.mod_eq_of_lt (a:=x.toNat/16) (by omega)]
theorem x69 (x:BitVec 32)(c:Nat)(hc:c<256):bits .xor .u32 ((x.toNat:Nat):Int) (c:Int)=(((x^^^BitVec.ofNat 32 c).toNat:Nat):Int):=by
 have hx:=x.isLt;rw[z5i _ _ x.isLt (by omega),BitVec.toNat_xor,BitVec.toNat_ofNat,Nat.mod_eq_of_lt (a:=c) (by omega)]
theorem y3i (t:List Nat)(h:t.length=4):numL t=((t.getD 0 0*256+t.getD 1 0)*256+t.getD 2 0)*256+t.getD 3 0:=by
 obtain⟨a,b,c,d,rfl⟩:∃a b c d,t=[a,b,c,d]:=by
  match t,h with
  | [a,b,c,d],_=>exact⟨a,b,c,d,rfl⟩
 simp[numL]
theorem B8.set {l:List Nat}(h:B8 l)(i x:Nat)(hx:x<256):B8 (l.set i x):=fun y hy=>by
 rcases List.mem_or_eq_of_mem_set hy with h1|h1
 ·exact h y h1
 ·omega
theorem x7a (l:List Nat)(i j x:Nat)(hi:i<l.length):(l.set i x).getD j 0=if i=j then x else l.getD j 0:=by
 simp only[List.getD,List.getElem?_set];split
 ·rename_i h;subst h;rfl
 ·rfl
theorem y58 (t:List Nat)(h4:t.length=4)(hb:B8 t)(j y:Nat)(hj:j<4)(hne:y≠t.getD j 0):numL (t.set j y)≠numL t:=by
 rw[y3i _ (by rw[List.length_set];exact h4),y3i t h4];simp only[x7a t j _ y (by omega)];have b0:=hb.get 0;have b1:=hb.get 1;have b2:=hb.get 2;have b3:=hb.get 3;have hj4:j=0∨j=1∨j=2∨j=3:=by omega
 rcases hj4 with rfl|rfl|rfl|rfl
 ·rw[if_pos rfl,if_neg (by decide),if_neg (by decide),if_neg (by decide)];omega
 ·rw[if_neg (by decide),if_pos rfl,if_neg (by decide),if_neg (by decide)];omega
 ·rw[if_neg (by decide),if_neg (by decide),if_pos rfl,if_neg (by decide)];omega
 ·rw[if_neg (by decide),if_neg (by decide),if_neg (by decide),if_pos rfl];omega
theorem q4a (m t:List Nat)(i y:Nat)(h4:t.length=4)(hb:B8 (m++t))(hy:y<256)(hi:i<m.length+4)(hne:y≠(m++t).getD i 0)(hs:numL t=(more 0#32 m).toNat):
  ∃m' t',(m++t).set i y=m'++t'∧m'.length=m.length∧t'.length=4∧decide (numL t'=(more 0#32 m').toNat)=false:=by
 have hbm:B8 m:=fun x hx=>hb x (List.mem_append_left _ hx)
 have hbt:B8 t:=fun x hx=>hb x (List.mem_append_right _ hx)
 by_cases him:i<m.length
 ·rw[show(m++t).getD i 0=m.getD i 0 by simp[List.getD,List.getElem?_append_left him]] at hne;refine⟨m.set i y,t,List.set_append_left _ _ him,List.length_set,h4,?_⟩;rw[decide_eq_false_iff_not,hs];intro h;exact x66 0#32 m i y him hbm hy hne (BitVec.eq_of_toNat_eq h.symm)
 ·obtain⟨j,rfl⟩:∃j,i=m.length+j:=⟨i-m.length,by omega⟩
  rw[show(m++t).getD (m.length+j) 0=t.getD j 0 by simp[List.getD,List.getElem?_append_right]] at hne;refine⟨m,t.set j y,?_,rfl,by rw[List.length_set];exact h4,?_⟩
  ·rw[List.set_append_right _ _ (by omega),Nat.add_sub_cancel_left]
  ·rw[decide_eq_false_iff_not,←hs];exact y58 t h4 hbt j y (by omega) hne
theorem x0d (x k:Nat):x^^^2^k≠x:=by
 intro h;have h1:=congrArg (x^^^ ·) h;simp only[←Nat.xor_assoc,Nat.xor_self,Nat.zero_xor] at h1;have:0<2^k:=Nat.pow_pos (by decide);omega
theorem x0e (a b:Nat)(ha:a<256)(hb:b<256):bits .xor .u8 (a:Int) (b:Int)=((a^^^b:Nat):Int):=by
 have hx:a^^^b<2^8:=Nat.xor_lt_two_pow (by omega) (by omega);have h1:(BitVec.ofInt 8 (a:Int)).toNat=a:=by
  rw[BitVec.ofInt_natCast,BitVec.toNat_ofNat];exact Nat.mod_eq_of_lt (by omega)
 have h2:(BitVec.ofInt 8 (b:Int)).toNat=b:=by
  rw[BitVec.ofInt_natCast,BitVec.toNat_ofNat];exact Nat.mod_eq_of_lt (by omega)
 have hw:∀n:Int,IntKind.u8.wrap n=n%256:=fun n=>by simp[IntKind.wrap,IntKind.bits,IntKind.signed]
 show IntKind.u8.wrap ((BitVec.ofInt 8 (a:Int)^^^BitVec.ofInt 8 (b:Int)).toNat:Int)=_;rw[BitVec.toNat_xor,h1,h2,hw];omega
end Go.Proofs.YtifmepiahlodhaaGreatDoor
namespace Go.Proofs.YtifmepiahlodhaaGreatDoor
open Go.RowKit
def z31 (k:Nat)(l:List Nat):List Nat:=[k,0,l.length/256,l.length%256]++l++List.replicate (504-l.length) 0
def sum4 (m:List Nat):List Nat:=beL (more 0#32 m).toNat 4
def z1k (k:Nat)(l:List Nat):List Nat:=z31 k l++sum4 (z31 k l)
def z20 (l:List Nat):Bool:=l.all fun x=>x==0
def opS (b:List Nat):Nat×List Nat×Nat:=
 if b.length≠512 then (0,[],3)
 else if numL (b.drop 508)≠(more 0#32 (b.take 508)).toNat then (0,[],4)
 else if (1≤b.getD 0 0∧b.getD 0 0≤5)∧b.getD 1 0=0∧b.getD 2 0*256+b.getD 3 0≤504∧z20 ((b.take 508).drop (4+(b.getD 2 0*256+b.getD 3 0)))=true
 then (b.getD 0 0,(b.drop 4).take (b.getD 2 0*256+b.getD 3 0),0)
 else (0,[],3)
theorem z1s {k:Nat}{l:List Nat}(h:l.length≤504):(z31 k l).length=508:=by
 simp only[z31,zla,List.length_cons,List.length_nil,List.length_replicate];omega
theorem y59 (m:List Nat):(sum4 m).length=4:=z1b _ _
theorem z7o {k:Nat}{l:List Nat}(h:l.length≤504):(z1k k l).length=512:=by
 rw[z1k,zla,z1s h,y59]
theorem q61 (n:Nat):B8 (List.replicate n 0):=fun x hx=>by
 have:=(List.mem_replicate.1 hx).2;omega
theorem y8f {k:Nat}{l:List Nat}(hk:k<256)(h:l.length≤504)(hb:B8 l):B8 (z31 k l):=by
 refine B8.append (B8.append ?_ hb) (q61 _);intro x hx;simp only[List.mem_cons,List.not_mem_nil,or_false] at hx;omega
theorem q1l (m:List Nat):B8 (sum4 m):=x97 _ _
theorem x7b {k:Nat}{l:List Nat}(hk:k<256)(h:l.length≤504)(hb:B8 l):B8 (z1k k l):=(y8f hk h hb).append (q1l _)
theorem x2g (m:List Nat):numL (sum4 m)=(more 0#32 m).toNat:=by
 rw[sum4,y8b];have:=(more 0#32 m).isLt;omega
theorem x0f {k:Nat}{l:List Nat}(h:l.length≤504):(z1k k l).take 508=z31 k l:=by
 rw[z1k,List.take_append_of_le_length (by rw[z1s h];exact zlr _),List.take_of_length_le (by rw[z1s h];exact zlr _)]
theorem x0g {k:Nat}{l:List Nat}(h:l.length≤504):(z1k k l).drop 508=sum4 (z31 k l):=by
 rw[z1k,List.drop_append_of_le_length (by rw[z1s h];exact zlr _),List.drop_of_length_le (by rw[z1s h];exact zlr _),List.nil_append]
theorem z3m (k:Nat)(l:List Nat):z1k k l=k::0::l.length/256::l.length%256::(l++(List.replicate (504-l.length) 0++sum4 (z31 k l))):=by
 simp[z1k,z31]
theorem y0k (k:Nat)(l:List Nat):z31 k l=k::0::l.length/256::l.length%256::(l++List.replicate (504-l.length) 0):=by
 simp[z31]
theorem z61 (n:Nat):z20 (List.replicate n 0)=true:=by
 simp[z20]
theorem x2h (k:Nat)(l:List Nat):(z31 k l).drop (4+l.length)=List.replicate (504-l.length) 0:=by
 rw[y0k,Nat.add_comm];simp
theorem x2i (k:Nat)(l:List Nat):((z1k k l).drop 4).take l.length=l:=by
 rw[z3m];simp
theorem x7c {k:Nat}{l:List Nat}(hk1:1≤k)(hk5:k≤5)(h:l.length≤504):opS (z1k k l)=(k,l,0):=by
 unfold opS;rw[if_neg (by rw[z7o h];simp),x0f h,x0g h,x2g,if_neg (by simp)];have e0:(z1k k l).getD 0 0=k:=by rw[z3m];rfl
 have e1:(z1k k l).getD 1 0=0:=by rw[z3m];rfl
 have e2:(z1k k l).getD 2 0=l.length/256:=by rw[z3m];rfl
 have e3:(z1k k l).getD 3 0=l.length%256:=by rw[z3m];rfl
 rw[e0,e1,e2,e3,show l.length/256*256+l.length%256=l.length by omega,x2h,x2i,z61,if_pos ⟨⟨hk1,hk5⟩,rfl,h,rfl⟩]
theorem x2j {b:List Nat}(h:b.length≠512):opS b=(0,[],3):=by unfold opS;rw[if_pos h]
theorem y6a {b:List Nat}(h:b.length=512)(hs:numL (b.drop 508)≠(more 0#32 (b.take 508)).toNat):opS b=(0,[],4):=by
 unfold opS;rw[if_neg (by omega),if_pos hs]
theorem q4b {b:List Nat}(hb:B8 b):(opS b).1<256∧B8 (opS b).2.1∧(opS b).2.2≤4:=by
 unfold opS;split
 ·exact⟨by decide,B8.nil,by decide⟩
 split
 ·exact⟨by decide,B8.nil,by decide⟩
 split
 ·exact⟨hb.get 0,(hb.drop 4).take _,Nat.zero_le _⟩
 ·exact⟨by decide,B8.nil,by decide⟩
end Go.Proofs.YtifmepiahlodhaaGreatDoor
namespace Go.Proofs.YtifmepiahlodhaaGreatDoor
open Go Go.RowKit
theorem z51 {P:Program}(src e dst:TypeId)(hs:P.underlying src=some (.slice e))(he:P.underlying e=some (.int .u8))(hd:P.underlying dst=some .string)(a:Option Addr)(n c:Nat)(l:List Nat)(hn:l.length=n)(w:World)(h:Src w a l):
  (convert src dst (.slice a n c)).run P w=.ok (.string (bstr l)) w:=by
 subst hn
 cases a with
 | none=>
  obtain rfl:l=[]:=by
   cases l with
   | nil=>rfl
   | cons x r=>obtain⟨_,_,h0,_⟩:=h (by simp);cases h0
  exact run_convert_bytes_nil w src e hs he 0 c dst hd
 | some x=>
  rcases Nat.eq_zero_or_pos l.length with h0|h0
  ·obtain rfl:=List.eq_nil_of_length_eq_zero h0;have hl:(loadCells x 0).run P w=.ok (([]:List Int).map (Value.int .u8)).toArray w:=by
    have:=run_loadCells_list (P:=P) w x [] (fun j v hj=>by simp at hj)
    simpa using this
   rw[show([]:List Nat).length=0 from rfl,run_convert_bytes_string w src dst e _ 0 c hs he hd,run_bytesToString w _ 0 c [] hl]
   rfl
  ·obtain⟨b,o,hx,hc⟩:=h h0
   cases hx
   refine run_convert_bytes_arg w src e hs he b o l.length c _ (by simp) (fun i hi=> ?_) dst hd;rw[hc i hi];simp[hi]
theorem z5j {w:World}{g E:Nat}{L:List Nat}(h:Row w g E L):Src w (some ⟨g,0,none⟩) L:=fun _=>⟨g,0,rfl,fun i hi=>by rw[Nat.zero_add];exact h.cell i hi⟩
theorem y3j (w:World)(E:TypeId):(w.alloc (.cells #[] E)).ownsRow w.heap.size E 1 (.slice (some ⟨w.heap.size,0,none⟩) 0 0) 0 []:=
 y0i (l:=[]) (by unfold Row;show(w.heap.push _)[w.heap.size]? =_;rw[Array.getElem?_push_size];rfl) (zlr _) (by unfold maxLen;simp)
theorem q1m (w:World)(B E:TypeId):w.ownsRow B E 1 (.slice none 0 0) 0 (bv []):=World.ownsRow_nil w B E 1
theorem y3k (l:List Nat)(k i:Nat):(l.drop k).getD i 0=l.getD (k+i) 0:=by simp[List.getD,List.getElem?_drop]
theorem y3l (l:List Nat)(k i:Nat)(h:i<k):(l.take k).getD i 0=l.getD i 0:=by simp[List.getD,h]
theorem Cs.cut {w:World}{b o:Nat}{l:List Nat}(h:Cs w b o l)(k n:Nat):Cs w b (o+k) ((l.drop k).take n):=fun i hi=>by
 rw[zlk,zld] at hi;have:=h (k+i) (by omega)
 rwa [y3l _ _ _ (by omega),y3k,Nat.add_assoc]
theorem Cs.rest {w:World}{b o:Nat}{l:List Nat}(h:Cs w b o l)(k:Nat):Cs w b (o+k) (l.drop k):=fun i hi=>by
 rw[zld] at hi;have:=h (k+i) (by omega)
 rwa [y3k,Nat.add_assoc]
theorem Cs.start {w:World}{b o:Nat}{l:List Nat}(h:Cs w b o l)(n:Nat):Cs w b o (l.take n):=fun i hi=>by
 rw[zlk] at hi;rw[y3l _ _ _ (by omega)];exact h i (by omega)
theorem Cs.src {w:World}{b o:Nat}{l:List Nat}(h:Cs w b o l):Src w (some ⟨b,o,none⟩) l:=fun _=>⟨b,o,rfl,h⟩
theorem Row.cs {w:World}{g E:Nat}{l:List Nat}(h:Row w g E l):Cs w g 0 l:=fun i hi=>by rw[Nat.zero_add];exact h.cell i hi
theorem x2k (w:World)(E:TypeId)(fr:Nat×Nat)(l:List Nat):Cs (w.alloc (.cells (bv l).toArray E fr)) w.heap.size 0 l:=fun i hi=>by
 have:=y3g l i hi;rw[Nat.zero_add,World.cell?_alloc_mark]
 simpa using this
def Blk (w:World)(b:Nat)(t:TypeId)(cs:Array Value):Prop:=w.heap[b]? =some (.cells cs t (0,0))
theorem Blk.lt {w:World}{b:Nat}{t:TypeId}{cs:Array Value}(h:Blk w b t cs):b<w.heap.size:=(zag.1 h).1
theorem Blk.below {w w':World}{b B:Nat}{t:TypeId}{cs:Array Value}(h:Blk w b t cs)(hb:Below B w w')(hg:b<B):Blk w' b t cs:=(hb.block b hg).trans h
theorem Blk.ext {w w':World}{b:Nat}{t:TypeId}{cs:Array Value}(h:Blk w b t cs)(hb:Ext w w'):Blk w' b t cs:=h.below hb h.lt
theorem Blk.turn {F:Nat→Prop}{w w':World}{b:Nat}{t:TypeId}{cs:Array Value}(h:Blk w b t cs)(ht:Turn F w w')(hF:¬F b):Blk w' b t cs:=ht.hg h hF
theorem Blk.cell {w:World}{b:Nat}{t:TypeId}{cs:Array Value}(h:Blk w b t cs)(i:Nat):w.cell? ⟨b,i,none⟩=cs[i]? :=cell_of_row w b i cs t (0,0) h
theorem Blk.fz {w:World}{b:Nat}{t:TypeId}{cs:Array Value}(h:Blk w b t cs)(i:Nat):w.frozen? ⟨b,i,none⟩=false:=frozen_of_row w b i cs t h
theorem Blk.set {w:World}{b:Nat}{t:TypeId}{cs:Array Value}(h:Blk w b t cs)(i:Nat)(v:Value):Blk (w.setCell ⟨b,i,none⟩ v) b t (cs.setIfInBounds i v):=heap_setCell_same w b i cs t v h
def ArrZ (t:TypeId)(cs:Array Value):Prop:=∀w:World,(Instr.alloc t true (.tuple #[])).run Tryz.prog w=.ok (.pointer (some ⟨w.heap.size,0,none⟩)) (w.alloc (.cells cs t))
section
variable {ops:Array Oper} {rest:List Oper} {o:Oper} {a:Act} {w:World} {K:Act→World→Prop} {Q:Exit→Act→World→Prop}
theorem x0h (t:TypeId)(x:Operand)(ho:o.op=.box t x)(cs:Array Value)(hx:a.eval x=.agg cs)
  (h:∀g w',w.heap.size≤g→Blk w' g t cs→Below w.heap.size w w'→K (a.put o.dst (.pointer (some ⟨g,0,none⟩))) w'):o.wp Tryz.prog a w K Q:=by
 have hk:=h w.heap.size (w.alloc (.cells cs t)) (zlr _) (heap_alloc_new _ _) ((zbr _ _).alloc (zlr _) _);have hr:(Instr.box t (.agg cs)).run Tryz.prog w=.ok (.pointer (some ⟨w.heap.size,0,none⟩)) (w.alloc (.cells cs t)):=rfl;unfold Oper.wp execOp;simp only[ho,hx,Sem.run_bind,Sem.run_pure,Result.andThen_ok,hr];exact hk
theorem z0m (hgd:o.guard=none)(t:TypeId)(x:Operand)(ho:o.op=.box t x)(cs:Array Value)(hx:a.eval x=.agg cs)
  (h:∀g w',w.heap.size≤g→Blk w' g t cs→Below w.heap.size w w'→wpList Tryz.prog ops Q rest (a.put o.dst (.pointer (some ⟨g,0,none⟩))) w'):wpList Tryz.prog ops Q (o::rest) a w:=
 wpList_plain hgd fun _ hK=>x0h t x ho cs hx fun g w' h1 h2 h3=>hK _ _ (h g w' h1 h2 h3)
theorem z29 (t:TypeId)(ho:o.op=.alloc t){cs:Array Value}(hz:ArrZ t cs)
  (h:∀g w',w.heap.size≤g→Blk w' g t cs→Below w.heap.size w w'→K (a.put o.dst (.pointer (some ⟨g,0,none⟩))) w'):o.wp Tryz.prog a w K Q:=by
 have hk:=h w.heap.size (w.alloc (.cells cs t)) (zlr _) (heap_alloc_new _ _) ((zbr _ _).alloc (zlr _) _);unfold Oper.wp execOp;simp only[ho,Sem.run_bind,Sem.run_pure,Result.andThen_ok,hz w];exact hk
theorem z0n (hgd:o.guard=none)(t:TypeId)(ho:o.op=.alloc t){cs:Array Value}(hz:ArrZ t cs)
  (h:∀g w',w.heap.size≤g→Blk w' g t cs→Below w.heap.size w w'→wpList Tryz.prog ops Q rest (a.put o.dst (.pointer (some ⟨g,0,none⟩))) w'):wpList Tryz.prog ops Q (o::rest) a w:=
 wpList_plain hgd fun _ hK=>z29 t ho hz fun g w' h1 h2 h3=>hK _ _ (h g w' h1 h2 h3)
end
end Go.Proofs.YtifmepiahlodhaaGreatDoor
namespace Go.Proofs.YtifmepiahlodhaaGreatDoor
open Go.RowKit
theorem y3m (b o c:Nat)(l:List Nat)(w:World)(h1:1≤l.length)(h8:l.length≤8)(hc:Cs w b o l)(hb:B8 l):
  Calls Tryz.prog 170 #[.slice (some ⟨b,o,none⟩) l.length c] w fun e w'=>e=.returned (.tuple #[.int .u64 (numL l),.nilIface])∧w=w':=by
 have d1:decide ((l.length:Int)<1)=false:=by simp;omega
 have d2:decide (8<(l.length:Int))=false:=by simp;omega
 have Hc:=zh hc;clear hc
 go_enter Tryz.func170,Tryz.ntmps170
 go_wp2
 go_loop [4,6,18] (fun v _ i=>∃k:Nat,k≤l.length∧i=.int .i64 k∧v=.int .u64 (numL (l.take k))) (fun _ _ i=>l.length-(intOf i).toNat)
 case atStart=>exact⟨0,Nat.zero_le _,rfl,rfl⟩
 case round=>
  obtain⟨k,hk,rfl,rfl⟩:=hrel
  by_cases hlt:k<l.length
  ·have hs:=zh (z98 l k hlt);have hcell:=Hc.out k hlt;have hx:=hb.get k;have hv:numL (l.take k)<72057594037927936:=by
    have:=y1o (hb.take k);rw[zlk,Nat.min_eq_left hk] at this;exact Nat.lt_of_lt_of_le this (x2a (by omega))
   have hor:=zh (q1g _ _ hv hx);generalize numL (l.take k)=V at*;generalize l.getD k 0=X at*;go_wp2
   go_round
   case rel=>exact⟨k+1,by omega,by go_num,by rw[hs.out,←hor.out]⟩
   case measure=>simp[intOf];omega
  ·obtain rfl:k=l.length:=by omega
   have e:l.take l.length=l:=List.take_length;rw[e];clear e;go_wp2
   go_ret2
   exact⟨rfl,rfl⟩
end Go.Proofs.YtifmepiahlodhaaGreatDoor
