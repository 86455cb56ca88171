/-
  Steps.
-/
import Derived.Laws.Bits64b
import Derived.Laws.BitsAllLaws
import Derived.RowKit
import Derived.IntWalk
import Derived.Laws.CopyOwn
import Derived.Test.YtdgladhfibfdlaaGreatDoorQPSs01
import Derived.Laws.BytesArg
import Derived.Test.YtdgladhfibfdlaaGreatDoorProg
import Derived.Laws.Rows
import Derived.Laws.Tables
import Derived.Laws.StructEq
import Derived.Lib.Hide
namespace Go.Proofs.YtdgladhfibfdlaaGreatDoor
open Go.RowKit Tryz
def XZ (l:List Nat):Nat:=l.foldl (fun a x=>a*256+x) 0
def beL (v:Nat):Nat→List Nat
 | 0=> []
 | n+1=>beL (v/256) n++[v%256]
def leL (v:Nat):Nat→List Nat
 | 0=> []
 | n+1=>v%256::leL (v/256) n
def B8 (l:List Nat):Prop:=∀x,x∈l→x<256
def Cs (w:World)(b o:Nat)(l:List Nat):Prop:=∀i,i<l.length→w.cell? ⟨b,o+i,none⟩=some (.int .u8 ((l.getD i 0:Nat):Int))
theorem B8.get {l:List Nat}(h:B8 l)(i:Nat):l.getD i 0<256:=by
 by_cases hi:i<l.length
 ·have:l.getD i 0=l[i]:=by simp[hi]
  rw[this];exact h _ (List.getElem_mem hi)
 ·have:l.getD i 0=0:=by simp[Nat.le_of_not_lt hi]
  omega
theorem B8.nil:B8 []:=by intro x h;cases h
theorem B8.append {l m:List Nat}(h:B8 l)(k:B8 m):B8 (l++m):=by
 intro x hx;rcases List.mem_append.1 hx with h1|h1
 ·exact h x h1
 ·exact k x h1
theorem B8.one {x:Nat}(h:x<256):B8 [x]:=by intro y hy;simp at hy;omega
theorem B8.take {l:List Nat}(h:B8 l)(k:Nat):B8 (l.take k):=fun x hx=>h x (List.mem_of_mem_take hx)
theorem B8.drop {l:List Nat}(h:B8 l)(k:Nat):B8 (l.drop k):=fun x hx=>h x (List.mem_of_mem_drop hx)
theorem X5 (v n:Nat):(beL v n).length=n:=by
 induction n generalizing v with
 | zero=>rfl
 | succ n ih=>simp[beL,ih]
theorem y64 (v n:Nat):B8 (beL v n):=by
 induction n generalizing v with
 | zero=>exact B8.nil
 | succ n ih=>exact(ih _).append (B8.one (Nat.mod_lt _ (by decide)))
theorem ZY (v n:Nat):(leL v n).reverse=beL v n:=by
 induction n generalizing v with
 | zero=>rfl
 | succ n ih=>simp[leL,beL,ih]
theorem y3w (v n:Nat):leL v (n+1)=leL v n++[v/256^n%256]:=by
 induction n generalizing v with
 | zero=>simp[leL]
 | succ n ih=>
  rw[leL,ih (v/256),leL,Nat.pow_succ',←Nat.div_div_eq_div_mul];rfl
theorem qJ (l:List Nat)(x:Nat):XZ (l++[x])=XZ l*256+x:=by simp[XZ]
theorem y8a {l:List Nat}(h:B8 l):XZ l<256^l.length:=by
 suffices∀(l:List Nat),B8 l.reverse→XZ l.reverse<256^l.length by
  have:=this l.reverse (by simpa using h);simpa using this
 intro l
 induction l with
 | nil=>intro _;simp[XZ]
 | cons x r ih=>
  intro h;rw[List.reverse_cons] at h⊢
  rw[qJ,List.length_cons,Nat.pow_succ];have h1:=ih (fun y hy=>h y (List.mem_append_left _ hy));have h2:x<256:=h x (by simp);omega
theorem z37 (v n:Nat):XZ (beL v n)=v%256^n:=by
 induction n generalizing v with
 | zero=>simp[beL,XZ,Nat.mod_one]
 | succ n ih=>
  rw[beL,qJ,ih,Nat.pow_succ',Nat.mod_mul];omega
theorem Cs.below {w w':World}{b o B:Nat}{l:List Nat}(h:Cs w b o l)(hb:Below B w w')(hB:b<B):Cs w' b o l:=fun i hi=>by
 rw[hb.cell (p:=⟨b,o+i,none⟩) hB];exact h i hi
theorem Cs.lt {w:World}{b o:Nat}{l:List Nat}(h:Cs w b o l)(hl:0<l.length):b<w.heap.size:=by
 have:=h 0 hl
 rcases zng b w.heap.size with h1|h1
 ·exact h1
 ·simp[World.cell?,Array.getElem?_eq_none h1] at this
theorem U9 (b o j:Nat):(⟨b,o,none⟩:Addr).add j=⟨b,o+j,none⟩:=by
 unfold Addr.add;split
 ·rename_i h;subst h;rfl
 ·rfl
def bv (l:List Nat):List Value:=l.map fun x:Nat=>Value.int .u8 (x:Int)
theorem Vy (l:List Nat):(bv l).length=l.length:=by simp[bv]
theorem qK (l m:List Nat):bv (l++m)=bv l++bv m:=by simp[bv]
theorem z8w (l:List Nat):∀u∈bv l,u.oneCell'=true:=by
 intro u hu;simp only[bv,List.mem_map] at hu;obtain⟨x,_,rfl⟩:=hu;rfl
theorem z38 (l:List Nat)(i:Nat)(h:i<l.length):(bv l)[i]? =some (.int .u8 ((l.getD i 0:Nat):Int)):=by simp[bv,h]
theorem x04 (l:List Nat)(i x:Nat):(bv l).set i (.int .u8 (x:Int))=bv (l.set i x):=by simp[bv,List.map_set]
theorem qL (n:Nat):List.replicate n (Value.int .u8 0)=bv (List.replicate n 0):=by simp[bv]
def Src (w:World)(a:Option Addr)(l:List Nat):Prop:=0<l.length→∃b o,a=some ⟨b,o,none⟩∧Cs w b o l
theorem Src.cells {w:World}{a:Option Addr}{l:List Nat}(h:Src w a l):0<l.length→∃ad,a=some ad∧∀j v,(bv l)[j]? =some v→w.cell? (ad.add j)=some v:=by
 intro h0;obtain⟨b,o,rfl,hc⟩:=h h0;refine⟨_,rfl,fun j v hj=> ?_⟩;have hlt:j<l.length:=by
  rcases zng j l.length with h1|h1
  ·exact h1
  ·rw[List.getElem?_eq_none (by rw[Vy];exact h1)] at hj;cases hj
 rw[z38 l j hlt] at hj
 cases hj
 rw[U9];exact hc j hlt
theorem Src.below {w w':World}{a:Option Addr}{B:Nat}{l:List Nat}(h:Src w a l)(hb:Below B w w')(hB:w.heap.size≤B):Src w' a l:=by
 intro h0;obtain⟨b,o,rfl,hc⟩:=h h0;exact⟨b,o,rfl,hc.below hb (Nat.lt_of_lt_of_le (hc.lt h0) hB)⟩
theorem Src.nil (w:World)(a:Option Addr):Src w a []:=fun h=>by cases h
theorem y3x (v k:Nat):beL v (k+1)=(v/256^k%256)::beL v k:=by
 rw[←ZY,y3w,List.reverse_append,ZY];rfl
def Su (l:List Nat)(v s k:Nat):List Nat:=l++(List.replicate (s-k) 0++beL v k)
theorem I8 (l:List Nat)(v s k:Nat)(h:k≤s):(Su l v s k).length=l.length+s:=by
 simp[Su,X5];omega
theorem QP (l:List Nat)(v s k j:Nat)(h:k<s)(hj:j+k+1=l.length+s):(Su l v s k).set j (v/256^k%256)=Su l v s (k+1):=by
 unfold Su;rw[y3x];have e:s-k=(s-(k+1))+1:=by omega
 rw[e,List.replicate_succ',List.append_assoc,List.set_append_right _ _ (by omega),List.set_append_right _ _ (by simp;omega)];have e2:j-l.length-(List.replicate (s-(k+1)) 0).length=0:=by simp;omega
 rw[e2];rfl
def Row (w:World)(g E:Nat)(l:List Nat):Prop:=w.heap[g]? =some (.cells (bv l).toArray E (0,0))
theorem L7 {w:World}{B E g n:Nat}{xs:List Value}(h:w.ownsRow B E 1 (.slice (some ⟨g,0,none⟩) n n) n xs):w.heap[g]? =some (.cells xs.toArray E (0,0)):=by
 rcases h.2 with ⟨h',_⟩|⟨g',cap,cur,h',hb,hg,hnc,hcm,hcs,htake⟩
 ·simp at h'
 ·simp only[Value.slice.injEq,Option.some.injEq,Addr.mk.injEq,and_true,true_and] at h';obtain⟨rfl,rfl⟩:=h';have e:cur.toList.take (n*1)=cur.toList:=List.take_of_length_le (by simp;omega);rw[e] at htake;rw[hg,←htake]
theorem z6c {w:World}{B E g:Nat}{l:List Nat}(h:Row w g E l)(hB:B≤g)(hm:l.length≤maxLen):w.ownsRow B E 1 (.slice (some ⟨g,0,none⟩) l.length l.length) l.length (bv l):=
 ⟨by simp[Vy],.inr ⟨g,l.length,(bv l).toArray,rfl,hB,h,zlr _,hm,by simp[Vy],by simp[Vy,zlw]⟩⟩
theorem Row.cell {w:World}{g E:Nat}{l:List Nat}(h:Row w g E l)(i:Nat)(hi:i<l.length):w.cell? ⟨g,i,none⟩=some (.int .u8 ((l.getD i 0:Nat):Int)):=by
 have h':w.heap[g]? =some (.cells (bv l).toArray E (0,0)):=h;have:=z38 l i hi;simp only[World.cell?,h']
 simpa using this
theorem Row.frozen {w:World}{g E:Nat}{l:List Nat}(h:Row w g E l)(i:Nat):w.frozen? ⟨g,i,none⟩=false:=by
 have h':w.heap[g]? =some (.cells (bv l).toArray E (0,0)):=h;simp[World.frozen?,h']
theorem Row.lt {w:World}{g E:Nat}{l:List Nat}(h:Row w g E l):g<w.heap.size:=by
 have h':w.heap[g]? =some (.cells (bv l).toArray E (0,0)):=h
 rcases zng g w.heap.size with h1|h1
 ·exact h1
 ·rw[Array.getElem?_eq_none h1] at h';cases h'
theorem Row.set {w:World}{g E:Nat}{l:List Nat}(h:Row w g E l)(i x:Nat):Row (w.setCell ⟨g,i,none⟩ (.int .u8 (x:Int))) g E (l.set i x):=by
 have h':w.heap[g]? =some (.cells (bv l).toArray E (0,0)):=h;have:=heap_setCell_same w g i (bv l).toArray E (.int .u8 (x:Int)) h';unfold Row;rw[this,←x04];simp
theorem Row.below {w w':World}{g E B:Nat}{l:List Nat}(h:Row w g E l)(hb:Below B w w')(hg:g<B):Row w' g E l:=(hb.block g hg).trans h
theorem qM (L:List Nat)(off:Nat)(cs:List Nat):splice (bv L) off (bv cs)=bv (splice L off cs):=by
 simp[splice,bv,List.map_append,List.map_take,List.map_drop]
theorem M7 {α:Type}(Z X:List α):splice Z 0 X=X++Z.drop X.length:=by simp[splice]
theorem QQ (n:Nat):(madeCells (Value.int .u8 0).cells (n*1)).toList=bv (List.replicate n 0):=by
 rw[←qL];show(madeCells #[Value.int .u8 0] (n*1)).toList=_;rw[toList_madeCells_one,Nat.mul_one]
section
variable {P:Program} {w:World} {ops:Array Oper} {rest:List Oper} {o:Oper} {a:Act} {Q:Exit→Act→World→Prop}
theorem V6 (hg:o.guard=none)(l c:Operand)(t:TypeId)(hop:o.op=Op.makeSlice t l c)
  (e:TypeId) (h1:P.underlying t=some (.slice e)) (h2:(P.info? e).map (fun i=>(i.zero,i.size,i.bytes))=some (some (.int .u8 0),1,1))
  (kl kc:IntKind) (L C:Int) (n:Nat) (hl:a.eval l=.int kl L) (hc:a.eval c=.int kc C) (hL:L=(n:Int)) (hC:C=(n:Int)) (b:n≤140737488355328)
  (hK:∀w',Hid (Row w' w.heap.size e (List.replicate n 0))→zB w w'→wpList P ops Q rest (a.put o.dst (.slice (some ⟨w.heap.size,0,none⟩) n n)) w'):
  wpList P ops Q (o::rest) a w:=by
 obtain⟨i0,hi,hz0,hz1,hz2⟩:=info_parts h2;refine wpList_make_full w hg l c t hop w.heap.size e i0 (.int .u8 0) 1 h1 hi hz0 hz1 kl kc L C n hl hc hL hC (by rw[hz2];omega) (by unfold maxLen;omega) (zlr _) ?_;intro w1 hown hgrow;refine hK w1 ?_ ((zbr w.heap.size w).grown hgrow (zlr _) (by intro k hk;cases hk));show w1.heap[w.heap.size]? =_;rw[←QQ];exact L7 hown
theorem Tq (hgd:o.guard=none)(d s:Operand)(dT sT:TypeId)
  (ho:o.op=.call {callee:=.builtin .copy,args:= #[d,s],argTypes:= #[dT,sT]}) (e:TypeId) (hu:P.underlying dT=some (.slice e)) (hsz:(P.info? e).map (·.size)=some 1)
  (g off dLen dCap:Nat) (sp:Option Addr) (sCap:Nat) (cur l:List Nat) (hd:a.eval d=.slice (some ⟨g,off,none⟩) dLen dCap) (hs:a.eval s=.slice sp l.length sCap)
  (hrow:Hid (Row w g e cur)) (hsrc:Src w sp l) (hfit:off+l.length≤cur.length) (hlen:l.length≤dLen) (B:Nat) (w0:World) (hb:Below B w0 w) (hBg:B≤g)
  (h:∀w',Hid (Row w' g e (splice cur off l))→Below B w0 w'→wpList P ops Q rest (a.put o.dst (goInt l.length)) w'):
  wpList P ops Q (o::rest) a w:=by
 refine wpList_copy_splice hgd d s dT sT ho e hu hsz _ sp dLen dCap l.length sCap hd hs g off (bv cur) e hrow.out (bv l) (by rw[Vy];exact(Nat.min_eq_left hlen).symm) ?_ (by simpa [Vy] using hfit) (z8w l) B w0 hb hBg ?_
 ·intro h0;exact⟨rfl,hsrc.cells (by rw[Vy] at h0;exact h0)⟩
 ·intro w' hr hb';rw[Vy];refine h w' ?_ hb';have:=hr.out;rw[qM] at this;exact this
theorem Jw (hgd:o.guard=none)(s x:Operand)(t:TypeId)
  (ho:o.op=.call {callee:=.builtin .append,args:= #[s,x],argTypes:= #[t,t]})
  (base:Nat) (e:TypeId) (ht:P.underlying t=some (.slice e)) (h2:(P.info? e).map (fun i=>(i.zero,i.size,i.bytes))=some (some (.int .u8 0),1,1))
  (v:Value) (l:List Nat) (hs:a.eval s=v) (hown:Hid (w.ownsRow base e 1 v l.length (bv l)))
  (sp:Option Addr) (c:Nat) (m:List Nat) (hx:a.eval x=.slice sp m.length c) (hz:sp=none→c=0) (hsrc:Src w sp m)
  (hlen:l.length+m.length≤140737488355328) (hbase:base≤w.heap.size)
  (h:∀v' w',Hid (w'.ownsRow base e 1 v' (l++m).length (bv (l++m)))→Hid (w.grownBy w' v.ownBlock)→Hid (x20 w v v')→wpList P ops Q rest (a.put o.dst v') w'):
  wpList P ops Q (o::rest) a w:=by
 obtain⟨i0,hi,hz0,hz1,hz2⟩:=info_parts h2
 cases sp with
 | none=>
  have hm:m=[]:=by
   cases m with
   | nil=>rfl
   | cons y r=>obtain⟨_,_,h0,_⟩:=hsrc (by simp);cases h0
  subst hm;obtain rfl:=hz rfl;refine wpList_append_own_none hgd s x t ho base e i0 1 ht hi v l.length (bv l) hs hown.out hx ?_;exact h v w (by rw[List.append_nil];exact hown) (World.grownBy.refl _ _) (.inl rfl)
 | some ad=>
  refine Uz hgd s x t ho base e i0 (.int .u8 0) 1 1 ht hi hz0 hz1 hz2 rfl (by decide) v l.length (bv l) hs hown.out ad m.length c (bv m) hx (by simp[Vy]) ?_ (z8w m) (by unfold maxLen;omega) (by omega) hbase ?_
  ·intro j u hj
   rcases Nat.eq_zero_or_pos m.length with h0|h0
   ·rw[List.getElem?_eq_none (by rw[Vy];omega)] at hj;cases hj
   ·obtain⟨ad',hd,hc⟩:=hsrc.cells h0
    cases hd
    exact hc j u hj
  ·intro v' w' hown' hg hn;refine h v' w' ?_ hg hn;show w'.ownsRow _ _ _ _ _ _;rw[qK,zla];exact hown'
end
theorem QA {P:Program}(w:World)(t e:TypeId)(h1:P.underlying t=some (.slice e))(h2:(P.info? e).map (fun i=>(i.zero,i.size,i.bytes))=some (some (.int .u8 0),1,1))(kl kc:IntKind)(n:Nat)(b:n≤140737488355328):
  ∃w',(Instr.makeSlice t (.int kl n) (.int kc n)).run P w=.ok (.slice (some ⟨w.heap.size,0,none⟩) n n) w'∧Row w' w.heap.size e (List.replicate n 0)∧zB w w':=by
 obtain⟨i0,hi,hz0,hz1,hz2⟩:=info_parts h2;obtain⟨w',hrun,hown,hgrow⟩:=run_make_full (P:=P) w w.heap.size t e i0 (.int .u8 0) 1 h1 hi hz0 hz1 kl kc n (by rw[hz2];omega) (by unfold maxLen;omega) (zlr _);refine⟨w',hrun,?_,(zbr w.heap.size w).grown hgrow (zlr _) (by intro k hk;cases hk)⟩;show w'.heap[w.heap.size]? =_;rw[←QQ];exact L7 hown
def Pj (l:List Nat):ByteArray:=strOfNums (l.map fun x:Nat=>(x:Int))
theorem z39 (w:World)(g E:Nat)(l:List Nat):Row w.drew g E l=Row w g E l:=rfl
theorem ZZ (l:List Nat):(Pj l).size=l.length:=by unfold Pj;rw[strOfNums_size];simp
end Go.Proofs.YtdgladhfibfdlaaGreatDoor
namespace Go.Proofs.YtdgladhfibfdlaaGreatDoor
open Go.RowKit Tryz
def pol:BitVec 32:=2197175160#32
def st (x:BitVec 32):BitVec 32:=(x>>>1)^^^(if x.getLsbD 0 then pol else 0#32)
def st4 (x:BitVec 32):BitVec 32:=st (st (st (st x)))
def byt (x:BitVec 32)(c:Nat):BitVec 32:=st4 (st4 (x^^^BitVec.ofNat 32 c))
def run (x:BitVec 32)(l:List Nat):BitVec 32:=l.foldl byt x
def YA (s:BitVec 32)(l:List Nat):BitVec 32:= ~~~(run (~~~s) l)
theorem x05 (x y:BitVec 32):st (x^^^y)=st x^^^st y:=by
 unfold st;rw[BitVec.ushiftRight_xor_distrib,BitVec.getLsbD_xor]
 cases x.getLsbD 0<;>cases y.getLsbD 0<;>simp
 ·ac_rfl
 ·ac_rfl
 ·rw[show x>>>1^^^pol^^^(y>>>1^^^pol)=x>>>1^^^y>>>1^^^(pol^^^pol) by ac_rfl,BitVec.xor_self,BitVec.xor_zero]
theorem y8b (x y:BitVec 32):st4 (x^^^y)=st4 x^^^st4 y:=by unfold st4;simp only[x05]
theorem z6d (x:BitVec 32)(l m:List Nat):run x (l++m)=run (run x l) m:=by simp[run]
theorem qN (l:List Nat)(n:Nat)(h:n<l.length):l.take (n+1)=l.take n++[l.getD n 0]:=by
 rw[List.take_succ_eq_append_getElem h];simp[h]
theorem z4a (x:BitVec 32)(l:List Nat)(c:Nat):run x (l++[c])=byt (run x l) c:=by rw[z6d];rfl
theorem Nv (a b:Nat)(ha:a<4294967296)(hb:b<4294967296):bits .xor .u32 (a:Int) (b:Int)=((a^^^b:Nat):Int):=by
 have hx:a^^^b<2^32:=Nat.xor_lt_two_pow (by omega) (by omega);have h1:(BitVec.ofInt 32 (a:Int)).toNat=a:=by
  rw[BitVec.ofInt_natCast,BitVec.toNat_ofNat];exact Nat.mod_eq_of_lt (by omega)
 have h2:(BitVec.ofInt 32 (b:Int)).toNat=b:=by
  rw[BitVec.ofInt_natCast,BitVec.toNat_ofNat];exact Nat.mod_eq_of_lt (by omega)
 have hw:∀n:Int,IntKind.u32.wrap n=n%4294967296:=fun n=>by simp[IntKind.wrap,IntKind.bits,IntKind.signed]
 show IntKind.u32.wrap ((BitVec.ofInt 32 (a:Int)^^^BitVec.ofInt 32 (b:Int)).toNat:Int)=_;rw[BitVec.toNat_xor,h1,h2,hw];omega
theorem z8x (a:Nat)(ha:a<4294967296):bits .and .u32 (a:Int) 15=((a%16:Nat):Int):=by
 have h1:(BitVec.ofInt 32 (a:Int)).toNat=a:=by
  rw[BitVec.ofInt_natCast,BitVec.toNat_ofNat];exact Nat.mod_eq_of_lt (by omega)
 have h2:(BitVec.ofInt 32 (15:Int)).toNat=2^4-1:=rfl;have hw:∀n:Int,IntKind.u32.wrap n=n%4294967296:=fun n=>by simp[IntKind.wrap,IntKind.bits,IntKind.signed]
 show IntKind.u32.wrap ((BitVec.ofInt 32 (a:Int)&&&BitVec.ofInt 32 15).toNat:Int)=_;rw[BitVec.toNat_and,h1,h2,Nat.and_two_pow_sub_one_eq_mod,hw];omega
theorem x06 (x y:BitVec 32):bits .xor .u32 ((x.toNat:Nat):Int) ((y.toNat:Nat):Int)=(((x^^^y).toNat:Nat):Int):=by
 rw[Nv _ _ x.isLt y.isLt,BitVec.toNat_xor]
theorem y65 (x:BitVec 32):(st x).toNat=if x.toNat%2=1 then (x.toNat/2)^^^2197175160 else x.toNat/2:=by
 unfold st;have e0:x.getLsbD 0=decide (x.toNat%2=1):=by simp[BitVec.getLsbD,Nat.testBit_zero]
 rw[e0,BitVec.toNat_xor,BitVec.toNat_ushiftRight,Nat.shiftRight_eq_div_pow]
 by_cases h:x.toNat%2=1
 ·simp only[h,decide_true,if_true];rfl
 ·simp[h]
theorem y8c (x:BitVec 32):(~~~x).toNat=4294967295-x.toNat:=by rw[BitVec.toNat_not]
theorem y66 (x:BitVec 32):bits .xor .u32 IntKind.u32.max ((x.toNat:Nat):Int)=(((~~~x).toNat:Nat):Int):=by
 have e:IntKind.u32.max=(((BitVec.allOnes 32).toNat:Nat):Int):=by decide
 rw[e,x06,BitVec.allOnes_xor]
def M9:List Nat:=(List.range 16).map fun k=>(st4 (BitVec.ofNat 32 k)).toNat
theorem z6e (k:Nat)(h:k<16):M9.getD k 0=(st4 (BitVec.ofNat 32 k)).toNat:=by simp[M9,h]
theorem KM (x:BitVec 32)(h:x.toNat%2=0):(st x).toNat=x.toNat/2:=by rw[y65,if_neg (by omega)]
theorem y3y (x:BitVec 32)(h:x.toNat%16=0):(st4 x).toNat=x.toNat/16:=by
 unfold st4;have h1:=KM x (by omega);have h2:=KM (st x) (by omega);have h3:=KM (st (st x)) (by omega);have h4:=KM (st (st (st x))) (by omega);omega
theorem z6f (p q:Nat)(h:q<16):q^^^p*16=p*16+q:=by
 have h1:=Nat.two_pow_add_eq_or_of_lt (i:=4) (b:=q) (by omega) p;have e2:2^4*p^^^q=2^4*p|||q:=by
  apply Nat.eq_of_testBit_eq;intro i;rw[Nat.testBit_xor,Nat.testBit_or,Nat.testBit_two_pow_mul]
  by_cases hi:4≤i
  ·have h2:(2:Nat)^4≤2^i:=Nat.pow_le_pow_right (by decide) hi;have:q.testBit i=false:=Nat.testBit_lt_two_pow (by omega);simp[this]
  ·simp[hi]
 rw[Nat.xor_comm,Nat.mul_comm p 16,show 16*p=2^4*p by omega,e2,←h1]
theorem z8y (x:BitVec 32):st4 x=st4 (BitVec.ofNat 32 (x.toNat%16))^^^BitVec.ofNat 32 (x.toNat/16):=by
 have hx:x=BitVec.ofNat 32 (x.toNat%16)^^^BitVec.ofNat 32 (x.toNat/16*16):=by
  apply BitVec.eq_of_toNat_eq;have:=x.isLt;rw[BitVec.toNat_xor,BitVec.toNat_ofNat,BitVec.toNat_ofNat,Nat.mod_eq_of_lt (a:=x.toNat%16) (by omega),Nat.mod_eq_of_lt (a:=x.toNat/16*16) (by omega),z6f _ _ (by omega)];omega
 have hh:st4 (BitVec.ofNat 32 (x.toNat/16*16))=BitVec.ofNat 32 (x.toNat/16):=by
  apply BitVec.eq_of_toNat_eq;have hx:=x.isLt;have e:(BitVec.ofNat 32 (x.toNat/16*16)).toNat=x.toNat/16*16:=by rw[BitVec.toNat_ofNat,Nat.mod_eq_of_lt (by omega)]
  rw[y3y _ (by omega),e,BitVec.toNat_ofNat,Nat.mod_eq_of_lt (by omega)];omega
 conv=>lhs;rw[hx]
 rw[y8b,hh]
theorem z6g (x:BitVec 32):bits .xor .u32 ((M9.getD (x.toNat%16) 0:Nat):Int) ((x.toNat/16:Nat):Int)=((st4 x).toNat:Int):=by
 have hx:=x.isLt;rw[z6e _ (by omega),Nv _ _ (st4 _).isLt (by omega),z8y x,BitVec.toNat_xor];rw[BitVec.toNat_ofNat (x:=x.toNat/16),Nat.mod_eq_of_lt (a:=x.toNat/16) (by omega)]
theorem z4b (x:BitVec 32)(c:Nat)(hc:c<256):bits .xor .u32 ((x.toNat:Nat):Int) (c:Int)=(((x^^^BitVec.ofNat 32 c).toNat:Nat):Int):=by
 have hx:=x.isLt;rw[Nv _ _ x.isLt (by omega),BitVec.toNat_xor,BitVec.toNat_ofNat,Nat.mod_eq_of_lt (a:=c) (by omega)]
theorem z8z (t:List Nat)(h:t.length=4):XZ t=((t.getD 0 0*256+t.getD 1 0)*256+t.getD 2 0)*256+t.getD 3 0:=by
 obtain⟨a,b,c,d,rfl⟩:∃a b c d,t=[a,b,c,d]:=by
  match t,h with
  | [a,b,c,d],_=>exact⟨a,b,c,d,rfl⟩
 simp[XZ]
end Go.Proofs.YtdgladhfibfdlaaGreatDoor
namespace Go.Proofs.YtdgladhfibfdlaaGreatDoor
open Go.RowKit Tryz
def Nw (k:Nat)(l:List Nat):List Nat:=[k,0,l.length/256,l.length%256]++l++List.replicate (504-l.length) 0
def y8d (m:List Nat):List Nat:=beL (YA 0#32 m).toNat 4
def V7 (k:Nat)(l:List Nat):List Nat:=Nw k l++y8d (Nw k l)
def S6 (l:List Nat):Bool:=l.all fun x=>x==0
def opS (b:List Nat):Nat×List Nat×Nat:=
 if b.length≠512 then (0,[],3)
 else if XZ (b.drop 508)≠(YA 0#32 (b.take 508)).toNat then (0,[],4)
 else if (1≤b.getD 0 0∧b.getD 0 0≤5)∧b.getD 1 0=0∧b.getD 2 0*256+b.getD 3 0≤504∧S6 ((b.take 508).drop (4+(b.getD 2 0*256+b.getD 3 0)))=true
 then (b.getD 0 0,(b.drop 4).take (b.getD 2 0*256+b.getD 3 0),0)
 else (0,[],3)
theorem Uu {k:Nat}{l:List Nat}(h:l.length≤504):(Nw k l).length=508:=by
 simp only[Nw,zla,List.length_cons,List.length_nil,List.length_replicate];omega
theorem z1u (m:List Nat):(y8d m).length=4:=X5 _ _
theorem D8 {k:Nat}{l:List Nat}(h:l.length≤504):(V7 k l).length=512:=by
 rw[V7,zla,Uu h,z1u]
theorem x4r (n:Nat):B8 (List.replicate n 0):=fun x hx=>by
 have:=(List.mem_replicate.1 hx).2;omega
theorem z4c {k:Nat}{l:List Nat}(hk:k<256)(h:l.length≤504)(hb:B8 l):B8 (Nw k l):=by
 refine B8.append (B8.append ?_ hb) (x4r _);intro x hx;simp only[List.mem_cons,List.not_mem_nil,or_false] at hx;omega
theorem y8e (m:List Nat):B8 (y8d m):=y64 _ _
theorem y3z {k:Nat}{l:List Nat}(hk:k<256)(h:l.length≤504)(hb:B8 l):B8 (V7 k l):=(z4c hk h hb).append (y8e _)
theorem z80 (m:List Nat):XZ (y8d m)=(YA 0#32 m).toNat:=by
 rw[y8d,z37];have:=(YA 0#32 m).isLt;omega
theorem z6h {k:Nat}{l:List Nat}(h:l.length≤504):(V7 k l).take 508=Nw k l:=by
 rw[V7,List.take_append_of_le_length (by rw[Uu h];exact zlr _),List.take_of_length_le (by rw[Uu h];exact zlr _)]
theorem z6i {k:Nat}{l:List Nat}(h:l.length≤504):(V7 k l).drop 508=y8d (Nw k l):=by
 rw[V7,List.drop_append_of_le_length (by rw[Uu h];exact zlr _),List.drop_of_length_le (by rw[Uu h];exact zlr _),List.nil_append]
theorem O0 (k:Nat)(l:List Nat):V7 k l=k::0::l.length/256::l.length%256::(l++(List.replicate (504-l.length) 0++y8d (Nw k l))):=by
 simp[V7,Nw]
theorem QR (k:Nat)(l:List Nat):Nw k l=k::0::l.length/256::l.length%256::(l++List.replicate (504-l.length) 0):=by
 simp[Nw]
theorem Ex (n:Nat):S6 (List.replicate n 0)=true:=by
 simp[S6]
theorem z81 (k:Nat)(l:List Nat):(Nw k l).drop (4+l.length)=List.replicate (504-l.length) 0:=by
 rw[QR,Nat.add_comm];simp
theorem z82 (k:Nat)(l:List Nat):((V7 k l).drop 4).take l.length=l:=by
 rw[O0];simp
theorem y30 {k:Nat}{l:List Nat}(hk1:1≤k)(hk5:k≤5)(h:l.length≤504):opS (V7 k l)=(k,l,0):=by
 unfold opS;rw[if_neg (by rw[D8 h];simp),z6h h,z6i h,z80,if_neg (by simp)];have e0:(V7 k l).getD 0 0=k:=by rw[O0];rfl
 have e1:(V7 k l).getD 1 0=0:=by rw[O0];rfl
 have e2:(V7 k l).getD 2 0=l.length/256:=by rw[O0];rfl
 have e3:(V7 k l).getD 3 0=l.length%256:=by rw[O0];rfl
 rw[e0,e1,e2,e3,show l.length/256*256+l.length%256=l.length by omega,z81,z82,Ex,if_pos ⟨⟨hk1,hk5⟩,rfl,h,rfl⟩]
theorem y8f {b:List Nat}(h:b.length≠512):opS b=(0,[],3):=by unfold opS;rw[if_pos h]
theorem y8g {b:List Nat}(h:b.length=512)(hs:XZ (b.drop 508)≠(YA 0#32 (b.take 508)).toNat):opS b=(0,[],4):=by
 unfold opS;rw[if_neg (by omega),if_pos hs]
theorem x07 {b:List Nat}(hb:B8 b):(opS b).1<256∧B8 (opS b).2.1∧(opS b).2.2≤4:=by
 unfold opS;split
 ·exact⟨by decide,B8.nil,by decide⟩
 split
 ·exact⟨by decide,B8.nil,by decide⟩
 split
 ·exact⟨hb.get 0,(hb.drop 4).take _,Nat.zero_le _⟩
 ·exact⟨by decide,B8.nil,by decide⟩
end Go.Proofs.YtdgladhfibfdlaaGreatDoor
namespace Go.Proofs.YtdgladhfibfdlaaGreatDoor
open Go Go.RowKit Tryz
theorem ZD {P:Program}(src e dst:TypeId)(hs:P.underlying src=some (.slice e))(he:P.underlying e=some (.int .u8))(hd:P.underlying dst=some .string)(a:Option Addr)(n c:Nat)(l:List Nat)(hn:l.length=n)(w:World)(h:Src w a l):
  (convert src dst (.slice a n c)).run P w=.ok (.string (Pj l)) w:=by
 subst hn
 cases a with
 | none=>
  obtain rfl:l=[]:=by
   cases l with
   | nil=>rfl
   | cons x r=>obtain⟨_,_,h0,_⟩:=h (by simp);cases h0
  exact run_convert_bytes_nil w src e hs he 0 c dst hd
 | some x=>
  rcases Nat.eq_zero_or_pos l.length with h0|h0
  ·obtain rfl:=List.eq_nil_of_length_eq_zero h0;have hl:(loadCells x 0).run P w=.ok (([]:List Int).map (Value.int .u8)).toArray w:=by
    have:=run_loadCells_list (P:=P) w x [] (fun j v hj=>by simp at hj)
    simpa using this
   rw[show([]:List Nat).length=0 from rfl,run_convert_bytes_string w src dst e _ 0 c hs he hd,run_bytesToString w _ 0 c [] hl]
   rfl
  ·obtain⟨b,o,hx,hc⟩:=h h0
   cases hx
   refine run_convert_bytes_arg w src e hs he b o l.length c _ (by simp) (fun i hi=> ?_) dst hd;rw[hc i hi];simp[hi]
theorem KN {w:World}{g E:Nat}{L:List Nat}(h:Row w g E L):Src w (some ⟨g,0,none⟩) L:=fun _=>⟨g,0,rfl,fun i hi=>by rw[Nat.zero_add];exact h.cell i hi⟩
theorem y8h (w:World)(B E:TypeId):w.ownsRow B E 1 (.slice none 0 0) 0 (bv []):=World.ownsRow_nil w B E 1
theorem qO (l:List Nat)(k i:Nat):(l.drop k).getD i 0=l.getD (k+i) 0:=by simp[List.getD,List.getElem?_drop]
theorem qP (l:List Nat)(k i:Nat)(h:i<k):(l.take k).getD i 0=l.getD i 0:=by simp[List.getD,h]
theorem Cs.cut {w:World}{b o:Nat}{l:List Nat}(h:Cs w b o l)(k n:Nat):Cs w b (o+k) ((l.drop k).take n):=fun i hi=>by
 rw[zlk,zld] at hi;have:=h (k+i) (by omega)
 rwa [qP _ _ _ (by omega),qO,Nat.add_assoc]
theorem Cs.rest {w:World}{b o:Nat}{l:List Nat}(h:Cs w b o l)(k:Nat):Cs w b (o+k) (l.drop k):=fun i hi=>by
 rw[zld] at hi;have:=h (k+i) (by omega)
 rwa [qO,Nat.add_assoc]
theorem Cs.start {w:World}{b o:Nat}{l:List Nat}(h:Cs w b o l)(n:Nat):Cs w b o (l.take n):=fun i hi=>by
 rw[zlk] at hi;rw[qP _ _ _ (by omega)];exact h i (by omega)
theorem Cs.src {w:World}{b o:Nat}{l:List Nat}(h:Cs w b o l):Src w (some ⟨b,o,none⟩) l:=fun _=>⟨b,o,rfl,h⟩
theorem Row.cs {w:World}{g E:Nat}{l:List Nat}(h:Row w g E l):Cs w g 0 l:=fun i hi=>by rw[Nat.zero_add];exact h.cell i hi
theorem y8i (w:World)(E:TypeId)(fr:Nat×Nat)(l:List Nat):Cs (w.alloc (.cells (bv l).toArray E fr)) w.heap.size 0 l:=fun i hi=>by
 have:=z38 l i hi;rw[Nat.zero_add,World.cell?_alloc_mark]
 simpa using this
def Blk (w:World)(b:Nat)(t:TypeId)(cs:Array Value):Prop:=w.heap[b]? =some (.cells cs t (0,0))
theorem Blk.lt {w:World}{b:Nat}{t:TypeId}{cs:Array Value}(h:Blk w b t cs):b<w.heap.size:=(zag.1 h).1
theorem Blk.below {w w':World}{b B:Nat}{t:TypeId}{cs:Array Value}(h:Blk w b t cs)(hb:Below B w w')(hg:b<B):Blk w' b t cs:=(hb.block b hg).trans h
theorem Blk.ext {w w':World}{b:Nat}{t:TypeId}{cs:Array Value}(h:Blk w b t cs)(hb:Ext w w'):Blk w' b t cs:=h.below hb h.lt
theorem Blk.turn {F:Nat→Prop}{w w':World}{b:Nat}{t:TypeId}{cs:Array Value}(h:Blk w b t cs)(ht:Zx F w w')(hF:¬F b):Blk w' b t cs:=ht.hg h hF
theorem Blk.cell {w:World}{b:Nat}{t:TypeId}{cs:Array Value}(h:Blk w b t cs)(i:Nat):w.cell? ⟨b,i,none⟩=cs[i]? :=cell_of_row w b i cs t (0,0) h
theorem Blk.fz {w:World}{b:Nat}{t:TypeId}{cs:Array Value}(h:Blk w b t cs)(i:Nat):w.frozen? ⟨b,i,none⟩=false:=frozen_of_row w b i cs t h
theorem Blk.set {w:World}{b:Nat}{t:TypeId}{cs:Array Value}(h:Blk w b t cs)(i:Nat)(v:Value):Blk (w.setCell ⟨b,i,none⟩ v) b t (cs.setIfInBounds i v):=heap_setCell_same w b i cs t v h
def x0q (t:TypeId)(cs:Array Value):Prop:=∀w:World,(Instr.alloc t true (.tuple #[])).run prog w=.ok (.pointer (some ⟨w.heap.size,0,none⟩)) (w.alloc (.cells cs t))
def z72 (t:TypeId)(n:Nat):Prop:=(∃d,prog.underlying t=some d∧(match d with| .struct _| .array _ _=>true|_=>false)=true)∧(prog.info? t).map (·.size)=some n
def At (w:World)(g o:Nat)(cs:Array Value):Prop:=∀(j:Nat) (u:Value),cs[j]? =some u→w.cell? ⟨g,o+j,none⟩=some u
theorem Blk.at {w:World}{b:Nat}{t:TypeId}{cs:Array Value}(h:Blk w b t cs):At w b 0 cs:=fun j u hu=>by rw[Nat.zero_add,h.cell];exact hu
theorem z83 (b o j:Nat):(⟨b,o,none⟩:Addr).add j=⟨b,o+j,none⟩:=by unfold Addr.add;split<;>simp_all
theorem P7 {t:TypeId}{n:Nat}(hT:z72 t n)(w:World)(g o:Nat)(cs:Array Value)(hc:At w g o cs)(hn:cs.size=n):(loadVar t ⟨g,o,none⟩).run prog w=.ok (.agg cs) w:=by
 obtain⟨⟨d,hu,hd⟩,hi⟩:=hT;have hl:(loadCells ⟨g,o,none⟩ cs.toList.length).run prog w=.ok cs.toList.toArray w:=
  run_loadCells_list (P:=prog) w ⟨g,o,none⟩ cs.toList (fun j v hv=>by
   rw[z83];exact hc j v (by simpa using hv))
 cases hq:prog.info? t with
 | none=>simp[hq] at hi
 | some i=>
  have hs:i.size=cs.size:=by rw[hn];simpa [hq] using hi
  have hagg:(isAgg t).run prog w=.ok true w:=by
   unfold isAgg;rw[Sem.run_bind,run_underlying hu w]
   cases d<;>simp_all
  simp only[Array.length_toList,Array.toArray_toList] at hl;simp[loadVar,Sem.run_bind,hagg,sizeOf,typeInfo,hq,hs,hl]
section
variable {ops:Array Oper} {rest:List Oper} {o:Oper} {a:Act} {w:World} {K:Act→World→Prop} {Q:Exit→Act→World→Prop}
theorem T0 (t:TypeId)(x:Operand)(ho:o.op=.load t x)(g q:Nat)(cs:Array Value)(hx:a.eval x=.pointer (some ⟨g,q,none⟩)){n:Nat}(hT:z72 t n)(hc:At w g q cs)(hn:cs.size=n):
  (execOp a.eval o).run prog w=.ok (.value (.agg cs)) w:=by
 unfold execOp;simp only[ho,hx,Instr.loadAt,Instr.sureAddr,Sem.run_bind,Sem.run_pure,Result.andThen_ok,P7 hT w g q cs hc hn]
theorem YB (t:TypeId)(x:Operand)(ho:o.op=.load t x)(g q:Nat)(cs:Array Value)(hx:a.eval x=.pointer (some ⟨g,q,none⟩)){n:Nat}(hT:z72 t n)(hc:At w g q cs)(hn:cs.size=n)
  (h:K (a.put o.dst (.agg cs)) w):o.wp prog a w K Q:=by
 unfold Oper.wp;rw[T0 t x ho g q cs hx hT hc hn];exact h
theorem Zj (hgd:o.guard=none)(t:TypeId)(x:Operand)(ho:o.op=.load t x)(g q:Nat)(cs:Array Value)(hx:a.eval x=.pointer (some ⟨g,q,none⟩)){n:Nat}(hT:z72 t n)(hc:At w g q cs)(hn:cs.size=n)
  (h:wpList prog ops Q rest (a.put o.dst (.agg cs)) w):wpList prog ops Q (o::rest) a w:=
 wpList_plain hgd fun _ hK=>YB t x ho g q cs hx hT hc hn (hK _ _ h)
theorem U0 (t:TypeId)(x y:Operand)(ho:o.op=.store t x y)(g:Nat)(cs old:Array Value)(t2:TypeId)(hx:a.eval x=.pointer (some ⟨g,0,none⟩))(hy:a.eval y=.agg cs){n:Nat}(hT:z72 t n)(hg:Blk w g t2 old)(hn:cs.size=n)(hold:old.size=n)(h1:cs.all (·.oneCell')=true)
  (h:∀w',Blk w' g t2 cs→Zx (fun i=>i=g) w w'→w'.heap.size=w.heap.size→K (a.put o.dst undef) w'):o.wp prog a w K Q:=by
 have hk:=h (w.setRow g cs) (setRow_heap w g _ _ _ _ hg) ⟨rfl,rfl,rfl,by simp,fun i _ hne=>setRow_other w g i _ hne⟩ (by simp);exact wp_store_row t x y ho g cs hx hy t2 _ hg (by rw[hT.2,hn]) (by rw[hn,hold]) h1 hk
theorem Zz (hgd:o.guard=none)(t:TypeId)(x y:Operand)(ho:o.op=.store t x y)(g:Nat)(cs old:Array Value)(t2:TypeId)(hx:a.eval x=.pointer (some ⟨g,0,none⟩))(hy:a.eval y=.agg cs){n:Nat}(hT:z72 t n)(hg:Blk w g t2 old)(hn:cs.size=n)(hold:old.size=n)(h1:cs.all (·.oneCell')=true)
  (h:∀w',Blk w' g t2 cs→Zx (fun i=>i=g) w w'→w'.heap.size=w.heap.size→wpList prog ops Q rest (a.put o.dst undef) w'):wpList prog ops Q (o::rest) a w:=
 wpList_plain hgd fun _ hK=>U0 t x y ho g cs old t2 hx hy hT hg hn hold h1 fun w' h1 h2 h3=>hK _ _ (h w' h1 h2 h3)
end
section
variable {ops:Array Oper} {rest:List Oper} {o:Oper} {a:Act} {w:World} {K:Act→World→Prop} {Q:Exit→Act→World→Prop}
theorem z6j (t:TypeId)(x:Operand)(ho:o.op=.box t x)(cs:Array Value)(hx:a.eval x=.agg cs)
  (h:∀g w',w.heap.size≤g→Blk w' g t cs→zB w w'→K (a.put o.dst (.pointer (some ⟨g,0,none⟩))) w'):o.wp prog a w K Q:=by
 have hk:=h w.heap.size (w.alloc (.cells cs t)) (zlr _) (heap_alloc_new _ _) ((zbr _ _).alloc (zlr _) _);have hr:(Instr.box t (.agg cs)).run prog w=.ok (.pointer (some ⟨w.heap.size,0,none⟩)) (w.alloc (.cells cs t)):=rfl;unfold Oper.wp execOp;simp only[ho,hx,Sem.run_bind,Sem.run_pure,Result.andThen_ok,hr];exact hk
theorem Zw (hgd:o.guard=none)(t:TypeId)(x:Operand)(ho:o.op=.box t x)(cs:Array Value)(hx:a.eval x=.agg cs)
  (h:∀g w',w.heap.size≤g→Blk w' g t cs→zB w w'→wpList prog ops Q rest (a.put o.dst (.pointer (some ⟨g,0,none⟩))) w'):wpList prog ops Q (o::rest) a w:=
 wpList_plain hgd fun _ hK=>z6j t x ho cs hx fun g w' h1 h2 h3=>hK _ _ (h g w' h1 h2 h3)
theorem U1 (t:TypeId)(ho:o.op=.alloc t){cs:Array Value}(hz:x0q t cs)
  (h:∀g w',w.heap.size≤g→Blk w' g t cs→zB w w'→K (a.put o.dst (.pointer (some ⟨g,0,none⟩))) w'):o.wp prog a w K Q:=by
 have hk:=h w.heap.size (w.alloc (.cells cs t)) (zlr _) (heap_alloc_new _ _) ((zbr _ _).alloc (zlr _) _);unfold Oper.wp execOp;simp only[ho,Sem.run_bind,Sem.run_pure,Result.andThen_ok,hz w];exact hk
theorem Zv (hgd:o.guard=none)(t:TypeId)(ho:o.op=.alloc t){cs:Array Value}(hz:x0q t cs)
  (h:∀g w',w.heap.size≤g→Blk w' g t cs→zB w w'→wpList prog ops Q rest (a.put o.dst (.pointer (some ⟨g,0,none⟩))) w'):wpList prog ops Q (o::rest) a w:=
 wpList_plain hgd fun _ hK=>U1 t ho hz fun g w' h1 h2 h3=>hK _ _ (h g w' h1 h2 h3)
end
section
variable {fn:Func} {p q r:Tmp} {t t2:TypeId} {n:Nat}
theorem Xj (hT:z72 t n)(h:fn.results= #[.cell p t])(tmps:Array Value)(w:World)(g:Nat)(cs:Array Value)(hp:tmps.getD p undef=.pointer (some ⟨g,0,none⟩))(hg:Blk w g t2 cs)(hn:cs.size=n):
  (results fn tmps).run prog w=.ok (.agg cs) w:=by
 have hp':tmps[p]?.getD undef=.pointer (some ⟨g,0,none⟩):=by simpa using hp
 simp[results,h,hp',asAddr,P7 hT w g 0 cs hg.at hn]
theorem U2 (hT:z72 t n)(h:fn.results= #[.cell p t,.tmp q])(tmps:Array Value)(w:World)(g:Nat)(cs:Array Value)(v:Value)(hp:tmps.getD p undef=.pointer (some ⟨g,0,none⟩))(hq:tmps.getD q undef=v)(hg:Blk w g t2 cs)(hn:cs.size=n):
  (results fn tmps).run prog w=.ok (.tuple #[.agg cs,v]) w:=by
 have hp':tmps[p]?.getD undef=.pointer (some ⟨g,0,none⟩):=by simpa using hp
 have hq':tmps[q]?.getD undef=v:=by simpa using hq
 simp[results,h,hp',hq',asAddr,P7 hT w g 0 cs hg.at hn,Result.andThen]
theorem R0 (hT:z72 t n)(h:fn.results= #[.cell p t,.tmp q,.tmp r])(tmps:Array Value)(w:World)(g:Nat)(cs:Array Value)(v u:Value)(hp:tmps.getD p undef=.pointer (some ⟨g,0,none⟩))(hq:tmps.getD q undef=v)(hr:tmps.getD r undef=u)(hg:Blk w g t2 cs)(hn:cs.size=n):
  (results fn tmps).run prog w=.ok (.tuple #[.agg cs,v,u]) w:=by
 have hp':tmps[p]?.getD undef=.pointer (some ⟨g,0,none⟩):=by simpa using hp
 have hq':tmps[q]?.getD undef=v:=by simpa using hq
 have hr':tmps[r]?.getD undef=u:=by simpa using hr
 simp[results,h,hp',hq',hr',asAddr,P7 hT w g 0 cs hg.at hn,Result.andThen]
end
end Go.Proofs.YtdgladhfibfdlaaGreatDoor
namespace Go.Proofs.YtdgladhfibfdlaaGreatDoor
open Go.RowKit Tryz
def Vz (w:World):Prop:=∀j,j<16→w.cell? ⟨2,j,none⟩=some (.int .u32 ((M9.getD j 0:Nat):Int))
theorem y8j (x:BitVec 32)(c:Nat)(w:World)(hc:c<256)(hT:Vz w):
  Calls prog 210 #[.int .u32 (x.toNat:Nat),.int .u8 c] w fun e w'=>e=.returned (.int .u32 ((byt x c).toNat:Nat))∧w=w':=by
 have hx:=z4b x c hc;have Ht:=zh hT;clear hT;obtain⟨y,hy⟩:∃y,y=x^^^BitVec.ofNat 32 c:=⟨_,rfl⟩
 have hb:Hid (byt x c=st4 (st4 y)):=by subst hy;rfl
 rw[←hy] at hx;clear hy;generalize hX:x.toNat=X at*;generalize hY:y.toNat=Y at*;have hYl:Y<4294967296:=by have:=y.isLt;omega
 have Hy:=zh hY;clear hX hY
 go_enter func210,ntmps210
 go_wp2
 go_loop [0,9] (fun s i=>∃(z:BitVec 32) (k:Nat),k≤2∧i=.int .i64 k∧s=.int .u32 (z.toNat:Nat)∧(k=0→z=y)∧(k=1→z=st4 y)∧(k=2→z=st4 (st4 y))) (fun _ i=>2-(intOf i).toNat)
 case atStart=>exact⟨y,0,by omega,rfl,by rw[Hy.out],fun _=>rfl,fun h=>by omega,fun h=>by omega⟩
 case round=>
  obtain⟨z,k,hk,rfl,rfl,h0,h1,h2⟩:=hrel;have H:=zh (zai h0 (zai h1 h2));clear h0 h1 h2
  by_cases hlt:k<2
  ·have hw:=z6g z;have hcell:=Ht.out (z.toNat%16) (by omega);generalize M9.getD (z.toNat%16) 0=V at*;have hzl:z.toNat<4294967296:=by have:=z.isLt;omega
   have hand:=z8x z.toNat hzl;have hil:z.toNat%16<16:=by omega
   have hdiv:((z.toNat/16:Nat):Int)=(z.toNat:Int)/16:=by omega
   rw[hdiv] at hw;have Hw:=zh hw;clear hw hdiv;generalize hI:z.toNat%16=I at*;generalize hZ:z.toNat=Z at*;have HZ:=zh (zai hI hZ);clear hI hZ;go_wp2
   go_round
   case rel=>exact⟨st4 z,k+1,by omega,by go_num,by rw[←Hw.out],fun h=>by omega,fun h=>by rw[H.out.1 (by omega)],fun h=>by rw[H.out.2.1 (by omega)]⟩
   case measure=>simp[intOf];omega
  ·obtain rfl:k=2:=by omega
   have e:=H.out.2.2 rfl;subst e;go_wp2;go_ret;exact⟨by rw[hb.out];rfl,rfl⟩
theorem KO (x:BitVec 32)(l:List Nat)(k:Nat)(h:k<l.length):run x (l.take (k+1))=byt (run x (l.take k)) (l.getD k 0):=by
 rw[qN l k h,z4a]
theorem y31 (s:BitVec 32)(a:Option Addr)(c:Nat)(l:List Nat)(w:World)(hb:B8 l)(hl:l.length≤9223372036854775807)(hsrc:Src w a l)(hT:Vz w):
  Calls prog 197 #[.int .u32 (s.toNat:Nat),.slice a l.length c] w fun e w'=>e=.returned (.int .u32 ((YA s l).toNat:Nat))∧w=w':=by
 have Ht:=zh hT;have Hs:=zh hsrc;clear hT hsrc;have hn:=y66 s
 go_enter func197,ntmps197
 go_wp2
 go_loop [5,7,12] (fun v _ i=>∃k:Nat,k≤l.length∧i=.int .i64 k∧v=.int .u32 ((run (~~~s) (l.take k)).toNat:Nat)) (fun _ _ i=>l.length-(intOf i).toNat)
 case atStart=>exact⟨0,Nat.zero_le _,rfl,by simp[run]⟩
 case round=>
  obtain⟨k,hk,rfl,rfl⟩:=hrel
  by_cases hlt:k<l.length
  ·obtain⟨b,o,rfl,hc⟩:=Hs.out (by omega);have hcell:=hc k hlt;have hx:=hb.get k;have hstep:=zh (KO (~~~s) l k hlt);have hadd:=y8j (run (~~~s) (l.take k)) (l.getD k 0) w hx Ht.out;clear hc;generalize run (~~~s) (l.take k)=R at*;generalize l.getD k 0=X at*
   go_wp2_with (go_at_call 210;refine hadd.mono ?_;rintro e w' ⟨rfl,rfl⟩)
   go_round
   case rel=>exact⟨k+1,by omega,by go_num,by rw[hstep.out]⟩
   case measure=>simp[intOf];omega
  ·obtain rfl:k=l.length:=by omega
   have e:l.take l.length=l:=List.take_length;rw[e];clear e;have hm:bits .xor .u32 IntKind.u32.max (((run (~~~s) l).toNat:Nat):Int)=((YA s l).toNat:Nat):=y66 _;generalize run (~~~s) l=R at*;go_wp2;go_ret;exact⟨rfl,rfl⟩
theorem y8k (a:Option Addr)(c:Nat)(l:List Nat)(w:World)(hb:B8 l)(hl:l.length≤9223372036854775807)(hsrc:Src w a l)(hT:Vz w):
  Calls prog 177 #[.slice a l.length c] w fun e w'=>e=.returned (.int .u32 ((YA 0#32 l).toNat:Nat))∧w=w':=by
 have hm:=y31 0#32 a c l w hb hl hsrc hT;generalize (YA 0#32 l).toNat=R at*
 go_enter func177,ntmps177
 go_wp2_with (go_at_call 197;refine hm.mono ?_;rintro e w' ⟨rfl,rfl⟩)
 go_ret;exact⟨rfl,rfl⟩
theorem Vz.below {w w':World}(h:Vz w)(hb:zB w w'):Vz w':=fun j hj=>by
 have hc:=h j hj;have hlt:2<w.heap.size:=by
  rcases zng 2 w.heap.size with h1|h1
  ·exact h1
  ·simp[World.cell?,Array.getElem?_eq_none h1] at hc
 rw[hb.cell (p:=⟨2,j,none⟩) hlt];exact hc
end Go.Proofs.YtdgladhfibfdlaaGreatDoor
namespace Go.Proofs.YtdgladhfibfdlaaGreatDoor
open Go Go.RowKit Tryz
theorem x08:(prog.info? 5).map (fun i=>(i.zero,i.size,i.bytes))=some (some (.int .u8 0),1,1):=by kernel_rfl
def Sl (w:World)(v:Value)(l:List Nat):Prop:=(v=.slice none 0 0∧l=[])∨∃g o c,v=.slice (some ⟨g,o,none⟩) l.length c∧Cs w g o l∧l.length≤c∧c≤maxLen
theorem Sl.none (w:World):Sl w (.slice none 0 0) []:=.inl ⟨rfl,rfl⟩
theorem Sl.below {w w':World}{v:Value}{l:List Nat}{B:Nat}(h:Sl w v l)(hb:Below B w w')(hB:w.heap.size≤B):Sl w' v l:=by
 rcases h with h|⟨g,o,c,rfl,hc,h1,h2⟩
 ·exact .inl h
 ·refine .inr ⟨g,o,c,rfl,?_,h1,h2⟩
  rcases Nat.eq_zero_or_pos l.length with h0|h0
  ·intro i hi;omega
  ·exact hc.below hb (Nat.lt_of_lt_of_le (hc.lt h0) hB)
theorem Sl.arg {w:World}{v:Value}{l:List Nat}(h:Sl w v l):∃a c,v=.slice a l.length c∧Src w a l∧(a=Option.none→c=0)∧l.length≤c∧c≤maxLen:=by
 rcases h with ⟨rfl,rfl⟩|⟨g,o,c,rfl,hc,h1,h2⟩
 ·exact⟨Option.none,0,rfl,Src.nil _ _,fun _=>rfl,zlr _,by unfold maxLen;omega⟩
 ·exact⟨_,c,rfl,hc.src,(fun h=>by cases h),h1,h2⟩
theorem Sl.own {w:World}{B E:Nat}{v:Value}{l:List Nat}(h:w.ownsRow B E 1 v l.length (bv l)):Sl w v l:=by
 rcases h.2 with ⟨rfl,h0⟩|⟨g,cap,cur,rfl,hb,hg,hnc,hcm,_⟩
 ·have:l=[]:=List.eq_nil_of_length_eq_zero h0;subst this;exact .inl ⟨rfl,rfl⟩
 ·refine .inr ⟨g,0,cap,rfl,fun i hi=> ?_,hnc,hcm⟩;have:=h.cellAt i (by omega);rw[z38 l i hi] at this
  simpa using this
theorem Sl.row {w:World}{g:Nat}{l:List Nat}(h:Row w g 5 l)(hm:l.length≤maxLen):Sl w (.slice (some ⟨g,0,Option.none⟩) l.length l.length) l:=
 .inr ⟨g,0,l.length,rfl,h.cs,zlr _,hm⟩
theorem Sl.conv {w:World}{v:Value}{l:List Nat}(h:Sl w v l):(convert 48 9 v).run prog w=.ok (.string (Pj l)) w:=by
 obtain⟨a,c,rfl,hs,_⟩:=h.arg;exact ZD 48 5 9 underlying48 underlying5 underlying9 a l.length c l rfl w hs
end Go.Proofs.YtdgladhfibfdlaaGreatDoor
