/-
  Steps.
-/
import Derived.Test.YtdgladhfibfdlaaGreatDoorQPSs08
namespace Go.Proofs.YtdgladhfibfdlaaGreatDoor
open Go Go.RowKit Tryz
structure En where
 k:ByteArray
 v:ByteArray
 ch:List Nat
instance :Inhabited En:=⟨⟨ByteArray.empty,ByteArray.empty,[]⟩⟩
def ea (es:List En)(i:Nat):En:=es.getD i default
theorem jL (A M:List En)(i:Nat):ea (A++M) (A.length+i)=ea M i:=by
 unfold ea;simp only[List.getD];rw[List.getElem?_append_right (by omega),Nat.add_sub_cancel_left]
theorem z96 (A M:List En)(i:Nat)(h:i<A.length):ea (A++M) i=ea A i:=by
 unfold ea;simp[List.getD,List.getElem?_append_left h]
theorem y86 (e:En)(r:List En)(i:Nat):ea (e::r) (i+1)=ea r i:=rfl
theorem Mw {es:List En}{i:Nat}(h:i<es.length):ea es i∈es:=by
 unfold ea;simp[List.getD,h]
theorem Ew (es:List En)(k:Nat)(h:k<es.length):es.take (k+1)=es.take k++[ea es k]:=by
 rw[List.take_succ_eq_append_getElem h];simp[ea,List.getD,h]
theorem zL (es:List En)(k:Nat)(h:k<es.length):es.drop k=ea es k::es.drop (k+1):=by
 rw[List.drop_eq_getElem_cons h];simp[ea,List.getD,h]
abbrev SB:=Option ByteArray
theorem G3 {a b:ByteArray}(h:blt a b=true):blt b a=false:=by rw[Jk] at h;rw[Jv];grind
theorem y87 {a b:ByteArray}(h:blt a b=true):(b.toList==a.toList)=false:=by
 rw[Jk] at h;rw[beq_eq_false_iff_ne,Lib.toList_data,Lib.toList_data];intro e;have e2:bl b=bl a:=e;rw[e2] at h;grind
theorem YU {a b:ByteArray}(h:(a.toList==b.toList)=true):a=b:=by
 rw[beq_iff_eq,Lib.toList_data,Lib.toList_data] at h;exact z3x h
theorem y4l (a:ByteArray):(a.toList==a.toList)=true:=by simp
theorem y88 {a b:ByteArray}(h:blt a b=false)(h2:(a.toList==b.toList)=false):blt b a=true:=by
 rw[Jv] at h;rw[beq_eq_false_iff_ne,Lib.toList_data,Lib.toList_data] at h2;rw[Jk];grind
theorem x1r {a b c:ByteArray}(h:blt b a=false)(k:blt b c=true):blt a c=true:=by
 rw[Jv] at h;rw[Jk] at*;grind
theorem jM {a b c:ByteArray}(h:blt a b=true)(k:blt c b=false):blt a c=true:=by
 rw[Jv] at k;rw[Jk] at*;grind
theorem z97 {a b c:ByteArray}(h:blt b a=false)(k:blt c b=false):blt c a=false:=by
 rw[Jv] at*;grind
def fE:List En→ByteArray→Nat
 | [],_=>0
 | e::r,key=>if blt e.k key=true then fE r key+1 else 0
def isE:List En→ByteArray→Bool
 | [],_=>false
 | e::r,key=>if blt e.k key=true then isE r key else e.k.toList==key.toList
def Tx (es:List En)(key:ByteArray):Nat:=if isE es key=true then 1 else 0
def rep (es:List En)(key:ByteArray)(o:List En):List En:=es.take (fE es key)++(o++es.drop (fE es key+Tx es key))
def Cv (es:List En)(key:ByteArray):ByteArray:=if isE es key=true then (ea es (fE es key)).v else ByteArray.empty
theorem QD:∀(es:List En) (key:ByteArray),fE es key+Tx es key≤es.length
 | [],key=>by simp[fE,Tx,isE]
 | e::r,key=>by
  have h1:=QD r key;have e1:fE (e::r) key=if blt e.k key=true then fE r key+1 else 0:=rfl
  have e2:isE (e::r) key=if blt e.k key=true then isE r key else e.k.toList==key.toList:=rfl
  unfold Tx at*;rw[e1,e2]
  cases h:blt e.k key
  ·simp only[Bool.false_eq_true,if_false,List.length_cons];split<;>omega
  ·simp only[if_true,List.length_cons];omega
theorem y89:∀(es:List En) (key:ByteArray) (i:Nat),i<fE es key→blt (ea es i).k key=true
 | [],_,i,h=>by simp[fE] at h
 | e::r,key,i,h=>by
  unfold fE at h
  cases h2:blt e.k key
  ·rw[h2] at h;simp at h
  ·rw[h2] at h;simp only[if_true] at h
   cases i with
   | zero=>exact h2
   | succ i=>exact y89 r key i (by omega)
theorem y9a:∀(es:List En) (key:ByteArray),fE es key<es.length→blt (ea es (fE es key)).k key=false
 | [],_,h=>by simp[fE] at h
 | e::r,key,h=>by
  unfold fE at h⊢
  cases h2:blt e.k key
  ·simp only[Bool.false_eq_true,if_false];exact h2
  ·rw[h2] at h;simp only[if_true,List.length_cons] at h⊢
   exact y9a r key (by omega)
theorem jN:∀(es:List En) (key:ByteArray),isE es key=(decide (fE es key<es.length)&&((ea es (fE es key)).k.toList==key.toList))
 | [],key=>by simp[isE,fE]
 | e::r,key=>by
  unfold isE fE
  cases h2:blt e.k key
  ·simp only[Bool.false_eq_true,if_false];have:ea (e::r) 0=e:=rfl;rw[this];simp
  ·simp only[if_true];rw[y86,jN r key];simp
def srt (es:List En):Prop:=es.Pairwise (fun a b=>blt a.k b.k=true)
theorem z98 {es:List En}(hs:srt es){i j:Nat}(hij:i<j)(hj:j<es.length):blt (ea es i).k (ea es j).k=true:=by
 have h:=List.pairwise_iff_getElem.1 hs i j (by omega) hj hij;have e1:ea es i=es[i]:=by unfold ea;simp[List.getD,show i<es.length by omega]
 have e2:ea es j=es[j]:=by unfold ea;simp[List.getD,hj]
 rw[e1,e2];exact h
theorem x3h {es:List En}(hs:srt es)(key:ByteArray)(i:Nat)(hi:fE es key≤i)(hl:i<es.length):blt (ea es i).k key=false:=by
 have h1:=y9a es key (by omega)
 rcases Nat.lt_or_ge (fE es key) i with h2|h2
 ·have h3:=z98 hs h2 hl;have h4:=G3 h3;exact z97 h1 h4
 ·obtain rfl:i=fE es key:=by omega
  exact h1
theorem z99:∀(es:List En) (key:ByteArray),∀e∈es.take (fE es key),blt e.k key=true
 | [],key,e,h=>by simp at h
 | x::r,key,e,h=>by
  unfold fE at h
  cases h2:blt x.k key
  ·rw[h2] at h;simp at h
  ·rw[h2] at h;simp only[if_true,List.take_succ_cons,List.mem_cons] at h
   rcases h with rfl|h
   ·exact h2
   ·exact z99 r key e h
theorem y0a:∀(es:List En) (key:ByteArray),srt es→∀e∈es.drop (fE es key+Tx es key),blt key e.k=true
 | [],key,_,e,h=>by simp at h
 | x::r,key,hs,e,h=>by
  have hs':=List.pairwise_cons.1 hs;unfold fE Tx isE at h
  cases h2:blt x.k key
  ·rw[h2] at h;simp only[Bool.false_eq_true,if_false] at h
   cases h3:(x.k.toList==key.toList)
   ·rw[h3] at h;simp only[Bool.false_eq_true,if_false,Nat.add_zero,List.drop_zero,List.mem_cons] at h;have h4:=y88 h2 h3
    rcases h with rfl|h
    ·exact h4
    ·exact O6 h4 (hs'.1 e h)
   ·rw[h3] at h;simp only[if_true,Nat.zero_add,List.drop_succ_cons,List.drop_zero] at h;rw[←YU h3];exact hs'.1 e h
  ·rw[h2] at h;simp only[if_true] at h;rw[show fE r key+1+(if isE r key=true then 1 else 0)=(fE r key+Tx r key)+1 by unfold Tx;omega,List.drop_succ_cons] at h;exact y0a r key hs'.2 e h
theorem y9b {A:List En}{key:ByteArray}(hA:∀e∈A,blt e.k key=true)(M:List En):fE (A++M) key=A.length+fE M key∧isE (A++M) key=isE M key:=by
 induction A with
 | nil=>simp
 | cons a r ih=>
  have h1:=hA a (by simp);have h2:=ih (fun e he=>hA e (by simp[he]));constructor
  ·rw[List.cons_append,fE,if_pos h1,h2.1,List.length_cons];omega
  ·rw[List.cons_append,isE,if_pos h1,h2.2]
theorem z4t {B:List En}{key:ByteArray}(hB:∀e∈B,blt key e.k=true):∀M:List En,fE (M++B) key=fE M key∧isE (M++B) key=isE M key
 | []=>by
  cases B with
  | nil=>simp
  | cons b r=>
   have h1:=hB b (by simp);have h2:=G3 h1;have h3:=y87 h1;constructor
   ·simp[fE,h2]
   ·simp[isE,h2,h3]
 | m::r=>by
  have h:=z4t hB r;constructor
  ·rw[List.cons_append,fE,fE,h.1]
  ·rw[List.cons_append,isE,isE,h.2]
theorem y0b {A B:List En}{key:ByteArray}(hA:∀e∈A,blt e.k key=true)(hB:∀e∈B,blt key e.k=true)(M:List En):fE (A++(M++B)) key=A.length+fE M key∧isE (A++(M++B)) key=isE M key:=by
 have h1:=y9b hA (M++B);have h2:=z4t hB M;exact⟨by rw[h1.1,h2.1],by rw[h1.2,h2.2]⟩
theorem y9c {A B:List En}{key:ByteArray}(hA:∀e∈A,blt e.k key=true)(hB:∀e∈B,blt key e.k=true)(M o:List En):rep (A++(M++B)) key o=A++(rep M key o++B):=by
 have h:=y0b hA hB M;have hl:=QD M key;unfold rep Tx at*;rw[h.1,h.2];have e1:(A++(M++B)).take (A.length+fE M key)=A++M.take (fE M key):=by
  rw[List.take_length_add_append,List.take_append_of_le_length (by omega)]
 have e2:(A++(M++B)).drop (A.length+fE M key+(if isE M key=true then 1 else 0))=M.drop (fE M key+(if isE M key=true then 1 else 0))++B:=by
  rw[Nat.add_assoc,List.drop_length_add_append,List.drop_append_of_le_length (by omega)]
 rw[e1,e2];simp only[List.append_assoc]
theorem y4m {A B:List En}{key:ByteArray}(hA:∀e∈A,blt e.k key=true)(hB:∀e∈B,blt key e.k=true)(M:List En):Cv (A++(M++B)) key=Cv M key:=by
 have h:=y0b hA hB M;have hl:=QD M key;unfold Cv Tx at*;rw[h.1,h.2]
 by_cases h2:isE M key=true
 ·rw[if_pos h2,if_pos h2,jL,z96 _ _ _ (by rw[if_pos h2] at hl;omega)]
 ·rw[if_neg h2,if_neg h2]
def x2x (key:ByteArray)(o:List En):Prop:=o=[]∨∃v,o=[⟨key,v,[]⟩]
theorem y0c {es:List En}{key:ByteArray}{o:List En}{e:En}(h:e∈rep es key o):e∈es∨e∈o:=by
 unfold rep at h;simp only[List.mem_append] at h
 rcases h with h|h|h
 ·exact .inl (List.mem_of_mem_take h)
 ·exact .inr h
 ·exact .inl (List.mem_of_mem_drop h)
theorem y9d {es:List En}{key:ByteArray}{o:List En}(hs:srt es)(ho:x2x key o):srt (rep es key o):=by
 unfold rep srt;have h1:=z99 es key;have h2:=y0a es key hs;rw[List.pairwise_append,List.pairwise_append];refine⟨hs.take,⟨?_,hs.drop,?_⟩,?_⟩
 ·rcases ho with rfl|⟨v,rfl⟩<;>simp
 ·intro a ha b hb
  rcases ho with rfl|⟨v,rfl⟩
  ·cases ha
  ·simp only[List.mem_singleton] at ha;subst ha;exact h2 b hb
 ·intro a ha b hb
  rcases List.mem_append.1 hb with hb|hb
  ·rcases ho with rfl|⟨v,rfl⟩
   ·cases hb
   ·simp only[List.mem_singleton] at hb;subst hb;exact h1 a ha
  ·exact O6 (h1 a ha) (h2 b hb)
theorem Ey (es:List En)(key:ByteArray)(o:List En):(rep es key o).length+Tx es key=es.length+o.length:=by
 have:=QD es key;unfold rep;simp only[zla,zlk,zld];omega
def okE (e:En):Prop:=okK e.k=true∧e.v.size≤2048
def szE (e:En):Nat:=Ej e.k (e.v.size:Int)
def szs (es:List En):Nat:=(es.map szE).sum
def Y3 (es:List En):Nat:=vs es.length+szs es
def kss (ks:List ByteArray):Nat:=(ks.map (fun k=>3+k.size)).sum
def T8 (ks:List ByteArray):Nat:=2+kss ks
theorem G4 {e:En}(h:okE e):3≤szE e∧szE e≤106:=by
 have h1:=Xv h.1;have h2:=h.2;unfold szE Ej;rw[Uj (show e.k.size<128 by omega),show((e.v.size:Int)).toNat=e.v.size from rfl]
 by_cases h3:e.v.size≤64
 ·rw[if_pos (by omega),Uj (by omega)];omega
 ·rw[if_neg (by omega)];have h4:vs e.v.size≤2:=D9 2 _ (by omega) (by omega);have:=O1 e.v.size;omega
theorem Eu (a b:List En):szs (a++b)=szs a+szs b:=by unfold szs;rw[List.map_append,List.sum_append]
theorem zM (e:En)(b:List En):szs (e::b)=szE e+szs b:=by unfold szs;simp
theorem Vu:∀{es:List En},(∀e∈es,okE e)→3*es.length≤szs es∧szs es≤106*es.length
 | [],_=>by simp[szs]
 | e::r,h=>by
  have h1:=G4 (h e (by simp));have h2:=Vu (es:=r) (fun x hx=>h x (by simp[hx]));rw[zM,List.length_cons];omega
theorem J9 (a b:List ByteArray):kss (a++b)=kss a+kss b:=by unfold kss;rw[List.map_append,List.sum_append]
theorem zN (k:ByteArray)(b:List ByteArray):kss (k::b)=3+k.size+kss b:=by unfold kss;simp
theorem Y5:∀{ks:List ByteArray},(∀k∈ks,okK k=true)→4*ks.length≤kss ks∧kss ks≤43*ks.length
 | [],_=>by simp[kss]
 | k::r,h=>by
  have h1:=Xv (h k (by simp));have h2:=Y5 (ks:=r) (fun x hx=>h x (by simp[hx]));rw[zN,List.length_cons];omega
def szI (es:List En):List Int:=es.map fun e=>((szE e:Nat):Int)
def ksI (ks:List ByteArray):List Int:=ks.map fun k=>((3+k.size:Nat):Int)
theorem y0d (l:List Nat):(l.map (fun n:Nat=>(n:Int))).sum=((l.sum:Nat):Int):=by
 induction l with
 | nil=>rfl
 | cons a r ih=>rw[List.map_cons,List.sum_cons,List.sum_cons,ih];omega
theorem z4u (es:List En)(a:Nat):pf (szI es) a=((szs (es.take a):Nat):Int):=by
 unfold pf szI szs;rw[←y0d,←List.map_take,List.map_map];rfl
theorem z4v (ks:List ByteArray)(a:Nat):pf (ksI ks) a=((kss (ks.take a):Nat):Int):=by
 unfold pf ksI kss;rw[←y0d,←List.map_take,List.map_map];rfl
theorem y0e (es:List En)(i:Nat)(h:i<es.length):ia (szI es) i=((szE (ea es i):Nat):Int):=by
 unfold ia szI ea;simp[List.getD,h]
theorem y0f (ks:List ByteArray)(i:Nat)(h:i<ks.length):ia (ksI ks) i=((3+(sa ks i).size:Nat):Int):=by
 unfold ia ksI sa;simp[List.getD,h]
theorem x3q {l:List Int}(b:Int)(hb:0≤b∧b≤2)(hs:∀i,i<l.length→1≤ia l i∧ia l i≤112)(hn:l.length≤1000)(h1:503≤pf l l.length)(h2:pf l l.length≤700):
  spE l b=0∧∃a:Nat,spN l b=(a:Int)∧1≤a∧a<l.length∧180≤pf l a∧pf l a≤410∧180≤pf l l.length-pf l a∧pf l l.length-pf l a≤410:=by
 have hok:xT l l.length:=fun i hi=>(Ou _).2 (by have:=hs i hi;omega)
 obtain⟨a,ha1,ha2,ha3,ha4⟩:=qV hs ((pf l l.length-111)/2) (by omega) l.length (zlr _) (by omega);have hz:=J0 l;have ha0:1≤a:=by
  rcases Nat.eq_zero_or_pos a with h|h
  ·subst h;omega
  ·exact h
 have han:a<l.length:=by
  rcases zng a l.length with h|h
  ·exact h
  ·obtain rfl:a=l.length:=by omega
   omega
 have hbr:=YG l (l.length-2);have hbl:=qU l (l.length-2) a ha0 (by omega);have hga:gr l a≤406∧2*gr l a≤pf l l.length+113:=by unfold gr;omega
 have hc:z73 l b=true:=(ZF l b).2 ⟨by omega,by omega,(Ou b).2 (by omega),hok⟩;have hy:=y67 hc (by omega);have hgb:gr l (bst l (l.length-2))=max (pf l (bst l (l.length-2))) (pf l l.length-pf l (bst l (l.length-2))):=rfl;exact⟨hy.2,bst l (l.length-2),hy.1,hbr.1,by omega,by omega,by omega,by omega,by omega⟩
def En.bare (e:En):En:=⟨e.k,e.v,[]⟩
def bare (es:List En):List En:=es.map En.bare
theorem Uk (es:List En):(bare es).length=es.length:=by unfold bare;simp
theorem G5 (a b:List En):bare (a++b)=bare a++bare b:=by unfold bare;simp
theorem y0g (es:List En):bare (bare es)=bare es:=by unfold bare;rw[List.map_map];rfl
theorem y0h (es:List En)(k:Nat):bare (es.take k)=(bare es).take k:=by unfold bare;rw[List.map_take]
theorem y0i (es:List En)(k:Nat):bare (es.drop k)=(bare es).drop k:=by unfold bare;rw[List.map_drop]
theorem y0j (es:List En)(i:Nat):ea (bare es) i=(ea es i).bare:=by
 unfold ea bare;simp only[List.getD,List.getElem?_map]
 cases es[i]? <;>rfl
theorem Lq:∀(es:List En) (key:ByteArray),fE (bare es) key=fE es key∧isE (bare es) key=isE es key
 | [],_=>⟨rfl,rfl⟩
 | e::r,key=>by
  have h:=Lq r key;have e1:bare (e::r)=e.bare::bare r:=rfl;rw[e1];unfold fE isE;rw[h.1,h.2];exact⟨rfl,rfl⟩
theorem y0k (es:List En)(key:ByteArray):Cv (bare es) key=Cv es key:=by
 unfold Cv;rw[(Lq es key).1,(Lq es key).2,y0j];rfl
theorem z4w (es:List En)(key:ByteArray)(o:List En):bare (rep es key o)=rep (bare es) key (bare o):=by
 unfold rep Tx;rw[(Lq es key).1,(Lq es key).2,G5,G5,y0h,y0i]
theorem y4n {es:List En}(h:srt es):srt (bare es):=by
 unfold srt bare;rw[List.pairwise_map];exact h
theorem z4x {es:List En}(h:∀x∈es,x.ch=[]):bare es=es:=by
 unfold bare
 conv=>rhs;rw[←List.map_id es]
 refine List.map_congr_left (fun x hx=> ?_);have:=h x hx
 cases x with
 | mk k v c=>simp only at this;rw[this];rfl
def ltO:SB→SB→Prop
 | some a,some b=>blt a b=true
 | _,_=>True
def geO:SB→ByteArray→Prop
 | some a,k=>blt k a=false
 | none,_=>True
def ltK:ByteArray→SB→Prop
 | k,some b=>blt k b=true
 | _,none=>True
def ins (lo hi:SB)(k:ByteArray):Prop:=geO lo k∧ltK k hi
theorem jO {a c:SB}{b:ByteArray}(h:ltO a (some b))(k:ltO (some b) c):ltO a c:=by
 cases a with
 | none=>trivial
 | some a=>cases c with
  | none=>trivial
  | some c=>exact O6 h k
theorem z4y {lo hi:SB}{m k:ByteArray}(h:ins lo (some m) k)(hm:ltO (some m) hi):ins lo hi k:=by
 refine⟨h.1,?_⟩
 cases hi with
 | none=>trivial
 | some b=>exact O6 h.2 hm
theorem jP {lo hi:SB}{m k:ByteArray}(h:ins (some m) hi k)(hm:ltO lo (some m)):ins lo hi k:=by
 refine⟨?_,h.2⟩
 cases lo with
 | none=>trivial
 | some a=>exact G3 (jM hm h.1)
theorem x1s {lo hi:SB}{k:ByteArray}(h:ins lo hi k):ltO lo hi:=by
 cases lo with
 | none=>trivial
 | some a=>cases hi with
  | none=>trivial
  | some b=>exact x1r h.1 h.2
def X8 {β:Type}(G:SB→SB→Nat→β→Prop):List ByteArray→SB→SB→List Nat→List β→Prop
 | [],lo,hi,ps,ess=>∃p e,ps=[p]∧ess=[e]∧G lo hi p e
 | k::ks,lo,hi,ps,ess=>∃p ps' e ess',ps=p::ps'∧ess=e::ess'∧G lo (some k) p e∧okK k=true∧X8 G ks (some k) hi ps' ess'
section
variable {β:Type} {G:SB→SB→Nat→β→Prop}
theorem X8.len:∀{ks:List ByteArray} {lo hi:SB} {ps:List Nat} {ess:List β},X8 G ks lo hi ps ess→ps.length=ks.length+1∧ess.length=ks.length+1
 | [],_,_,_,_,h=>by obtain⟨p,e,rfl,rfl,_⟩:=h;exact⟨rfl,rfl⟩
 | k::ks,_,_,_,_,h=>by
  obtain⟨p,ps',e,ess',rfl,rfl,_,_,h⟩:=h;have:=X8.len h;simp only[List.length_cons];omega
theorem X8.mono {G':SB→SB→Nat→β→Prop}(hG:∀lo hi p e,G lo hi p e→G' lo hi p e):∀{ks:List ByteArray} {lo hi:SB} {ps:List Nat} {ess:List β},X8 G ks lo hi ps ess→X8 G' ks lo hi ps ess
 | [],_,_,_,_,h=>by obtain⟨p,e,rfl,rfl,h⟩:=h;exact⟨p,e,rfl,rfl,hG _ _ _ _ h⟩
 | k::ks,_,_,_,_,h=>by
  obtain⟨p,ps',e,ess',rfl,rfl,h1,h2,h⟩:=h;exact⟨p,ps',e,ess',rfl,rfl,hG _ _ _ _ h1,h2,X8.mono hG h⟩
theorem X8.append:∀{ks:List ByteArray} {lo hi:SB} {ps:List Nat} {ess:List β} {k:ByteArray} {ks2:List ByteArray} {ps2:List Nat} {ess2:List β},
  X8 G ks lo (some k) ps ess→okK k=true→X8 G ks2 (some k) hi ps2 ess2→X8 G (ks++k::ks2) lo hi (ps++ps2) (ess++ess2)
 | [],_,_,_,_,_,_,_,_,h,hk,h2=>by
  obtain⟨p,e,rfl,rfl,h⟩:=h;exact⟨p,_,e,_,rfl,rfl,h,hk,h2⟩
 | x::ks,_,_,_,_,_,_,_,_,h,hk,h2=>by
  obtain⟨p,ps',e,ess',rfl,rfl,h1,h3,h⟩:=h;exact⟨p,_,e,_,rfl,rfl,h1,h3,X8.append h hk h2⟩
theorem X8.split:∀{ks:List ByteArray} {lo hi:SB} {ps:List Nat} {ess:List β} {i:Nat},X8 G ks lo hi ps ess→i<ks.length→
  X8 G (ks.take i) lo (some (sa ks i)) (ps.take (i+1)) (ess.take (i+1))∧okK (sa ks i)=true∧X8 G (ks.drop (i+1)) (some (sa ks i)) hi (ps.drop (i+1)) (ess.drop (i+1))
 | [],_,_,_,_,_,_,hi=>by simp at hi
 | k::ks,_,_,_,_,0,h,_=>by
  obtain⟨p,ps',e,ess',rfl,rfl,h1,h3,h⟩:=h;exact⟨⟨p,e,rfl,rfl,h1⟩,h3,h⟩
 | k::ks,_,_,_,_,i+1,h,hi=>by
  obtain⟨p,ps',e,ess',rfl,rfl,h1,h3,h⟩:=h;obtain⟨a,b,c⟩:=X8.split (i:=i) h (by simpa using hi);exact⟨⟨p,_,e,_,rfl,rfl,h1,h3,a⟩,b,c⟩
def lob (lo:SB)(ks:List ByteArray)(i:Nat):SB:=if i=0 then lo else some (sa ks (i-1))
def hib (hi:SB)(ks:List ByteArray)(j:Nat):SB:=if j<ks.length then some (sa ks j) else hi
theorem zO (ks:List ByteArray)(k:Nat)(h:k<ks.length):ks.drop k=sa ks k::ks.drop (k+1):=by
 rw[List.drop_eq_getElem_cons h];simp[sa,List.getD,h]
theorem X8.right {ks:List ByteArray}{lo hi:SB}{ps:List Nat}{ess:List β}{j:Nat}(h:X8 G ks lo hi ps ess)(hj:j≤ks.length):
  X8 G (ks.take j) lo (hib hi ks j) (ps.take (j+1)) (ess.take (j+1))∧
  ∀lo' ks' ps' ess',X8 G ks' lo' (hib hi ks j) ps' ess'→X8 G (ks'++ks.drop j) lo' hi (ps'++ps.drop (j+1)) (ess'++ess.drop (j+1)):=by
 have hl:=h.len;unfold hib
 rcases zng j ks.length with h1|h1
 ·rw[if_pos h1];obtain⟨a,b,c⟩:=h.split h1;refine⟨a,fun lo' ks' ps' ess' h2=> ?_⟩;rw[zO ks j h1];exact h2.append b c
 ·rw[if_neg (by omega),zlw h1,List.take_of_length_le (by omega),List.take_of_length_le (by omega)];refine⟨h,fun lo' ks' ps' ess' h2=> ?_⟩;rw[List.drop_of_length_le h1,List.drop_of_length_le (by omega),List.drop_of_length_le (by omega),List.append_nil,List.append_nil,List.append_nil];exact h2
theorem X8.left {ks:List ByteArray}{lo hi:SB}{ps:List Nat}{ess:List β}{i:Nat}(h:X8 G ks lo hi ps ess)(hi':i≤ks.length):
  X8 G (ks.drop i) (lob lo ks i) hi (ps.drop i) (ess.drop i)∧
  ∀hi2 ks' ps' ess',X8 G ks' (lob lo ks i) hi2 ps' ess'→X8 G (ks.take i++ks') lo hi2 (ps.take i++ps') (ess.take i++ess'):=by
 cases i with
 | zero=>
  have e:lob lo ks 0=lo:=rfl;rw[e];exact⟨h,fun _ _ _ _ h2=>h2⟩
 | succ i=>
  obtain⟨a,b,c⟩:=h.split (i:=i) (by omega);have e:lob lo ks (i+1)=some (sa ks i):=rfl;rw[e];refine⟨c,fun hi2 ks' ps' ess' h2=> ?_⟩;rw[z1x ks i (by omega),List.append_assoc];exact a.append b h2
theorem X8.cut {ks:List ByteArray}{lo hi:SB}{ps:List Nat}{ess:List β}{i j:Nat}(h:X8 G ks lo hi ps ess)(hij:i≤j)(hj:j≤ks.length):
  X8 G ((ks.take j).drop i) (lob lo ks i) (hib hi ks j) ((ps.take (j+1)).drop i) ((ess.take (j+1)).drop i)∧
  ∀ks' ps' ess',X8 G ks' (lob lo ks i) (hib hi ks j) ps' ess'→X8 G (ks.take i++(ks'++ks.drop j)) lo hi (ps.take i++(ps'++ps.drop (j+1))) (ess.take i++(ess'++ess.drop (j+1))):=by
 have hR:=h.right hj;have hL:=h.left (i:=i) (by omega);have hRL:=hR.1.left (i:=i) (by rw[zlk];omega);have e:lob lo (ks.take j) i=lob lo ks i:=by
  unfold lob
  by_cases h0:i=0
  ·rw[if_pos h0,if_pos h0]
  ·rw[if_neg h0,if_neg h0];have:sa (ks.take j) (i-1)=sa ks (i-1):=by unfold sa;simp[List.getD,show i-1<j by omega]
   rw[this]
 rw[e] at hRL;exact⟨hRL.1,fun ks' ps' ess' h2=>hL.2 _ _ _ _ (hR.2 _ _ _ _ h2)⟩
theorem X8.map {γ:Type}{G':SB→SB→Nat→γ→Prop}(f:β→γ)(hG:∀lo hi p e,G lo hi p e→G' lo hi p (f e)):∀{ks:List ByteArray} {lo hi:SB} {ps:List Nat} {ess:List β},X8 G ks lo hi ps ess→X8 G' ks lo hi ps (ess.map f)
 | [],_,_,_,_,h=>by obtain⟨p,e,rfl,rfl,h⟩:=h;exact⟨p,f e,rfl,rfl,hG _ _ _ _ h⟩
 | k::ks,_,_,_,_,h=>by
  obtain⟨p,ps',e,ess',rfl,rfl,h1,h2,h⟩:=h;exact⟨p,ps',f e,ess'.map f,rfl,rfl,hG _ _ _ _ h1,h2,X8.map f hG h⟩
theorem X8.all {P:β→Prop}(hG:∀lo hi p e,G lo hi p e→P e):∀{ks:List ByteArray} {lo hi:SB} {ps:List Nat} {ess:List β},X8 G ks lo hi ps ess→∀e∈ess,P e
 | [],_,_,_,_,h=>by
  obtain⟨p,e,rfl,rfl,h⟩:=h;intro x hx;rw[List.mem_singleton] at hx;rw[hx];exact hG _ _ _ _ h
 | k::ks,_,_,_,_,h=>by
  obtain⟨p,ps',e,ess',rfl,rfl,h1,h2,h⟩:=h;intro x hx
  rcases List.mem_cons.1 hx with hx|hx
  ·rw[hx];exact hG _ _ _ _ h1
  ·exact X8.all hG h x hx
end
section
variable {G:SB→SB→Nat→List En→Prop}
theorem X8.facts (hG:∀lo hi p e,G lo hi p e→ltO lo hi∧srt e∧∀x∈e,okE x∧ins lo hi x.k):∀{ks:List ByteArray} {lo hi:SB} {ps:List Nat} {ess:List (List En)},X8 G ks lo hi ps ess→
  ltO lo hi∧srt ess.flatten∧(∀x∈ess.flatten,okE x∧ins lo hi x.k)∧∀k∈ks,okK k=true
 | [],_,_,_,_,h=>by
  obtain⟨p,e,rfl,rfl,h⟩:=h;have:=hG _ _ _ _ h;refine⟨this.1,?_,?_,by simp⟩
  ·simpa using this.2.1
  ·simpa using this.2.2
 | k::ks,lo,hi,_,_,h=>by
  obtain⟨p,ps',e,ess',rfl,rfl,h1,h3,h⟩:=h;have a:=hG _ _ _ _ h1;have b:=X8.facts hG h;refine⟨jO a.1 b.1,?_,?_,?_⟩
  ·rw[List.flatten_cons];unfold srt;rw[List.pairwise_append];refine⟨a.2.1,b.2.1,fun x hx y hy=> ?_⟩;have h5:=(a.2.2 x hx).2.2;have h6:=(b.2.2.1 y hy).2.1;exact jM h5 h6
  ·intro x hx;rw[List.flatten_cons,List.mem_append] at hx
   rcases hx with hx|hx
   ·exact⟨(a.2.2 x hx).1,z4y (a.2.2 x hx).2 b.1⟩
   ·exact⟨(b.2.2.1 x hx).1,jP (b.2.2.1 x hx).2 a.1⟩
  ·intro x hx
   rcases List.mem_cons.1 hx with rfl|hx
   ·exact h3
   ·exact b.2.2.2 x hx
theorem X8.count {m:Nat}(hG:∀lo hi p e,G lo hi p e→m≤e.length):∀{ks:List ByteArray} {lo hi:SB} {ps:List Nat} {ess:List (List En)},X8 G ks lo hi ps ess→m*(ks.length+1)≤ess.flatten.length
 | [],_,_,_,_,h=>by
  obtain⟨p,e,rfl,rfl,h⟩:=h;have:=hG _ _ _ _ h
  simpa using this
 | k::ks,lo,hi,_,_,h=>by
  obtain⟨p,ps',e,ess',rfl,rfl,h1,h3,h⟩:=h;have a:=hG _ _ _ _ h1;have b:=X8.count hG h;rw[List.flatten_cons,zla,List.length_cons,Nat.mul_add,Nat.mul_one];omega
theorem X8.keys (hG:∀lo hi p e,G lo hi p e→ltO lo hi∧srt e∧∀x∈e,okE x∧ins lo hi x.k){ks:List ByteArray}{lo hi:SB}{ps:List Nat}{ess:List (List En)}(h:X8 G ks lo hi ps ess):Pw ks:=fun i hi=>by
 have hk:=(h.split hi).2.1;refine⟨hk,?_⟩;unfold J1
 by_cases h0:i=0
 ·rw[if_pos h0];exact YO (Xv hk).1
 ·rw[if_neg h0];have h1:=(h.split (i:=i-1) (by omega)).2.2;rw[show i-1+1=i by omega,zO ks i hi] at h1;obtain⟨p,ps',e,ess',_,_,h2,_,_⟩:=h1;exact(hG _ _ _ _ h2).1
theorem X8.way (hG:∀lo hi p e,G lo hi p e→ltO lo hi∧srt e∧∀x∈e,okE x∧ins lo hi x.k){ks:List ByteArray}{lo hi:SB}{ps:List Nat}{ess:List (List En)}(h:X8 G ks lo hi ps ess){key:ByteArray}(hk:ins lo hi key):
  ins (lob lo ks (Qk ks key)) (hib hi ks (Qk ks key)) key∧(∀x∈(ess.take (Qk ks key)).flatten,blt x.k key=true)∧(∀x∈(ess.drop (Qk ks key+1)).flatten,blt key x.k=true):=by
 have hw:=YT ks key;refine⟨⟨?_,?_⟩,?_,?_⟩
 ·unfold lob
  by_cases h0:Qk ks key=0
  ·rw[if_pos h0];exact hk.1
  ·rw[if_neg h0];exact zI ks key _ (by omega)
 ·unfold hib
  by_cases h0:Qk ks key<ks.length
  ·rw[if_pos h0];exact zK ks key h0
  ·rw[if_neg h0];exact hk.2
 ·intro x hx
  cases h0:Qk ks key with
  | zero=>rw[h0] at hx;simp at hx
  | succ i=>
   rw[h0] at hx;have h1:=(h.split (i:=i) (by omega)).1;have h2:=(h1.facts hG).2.2.1 x hx;have h3:blt key (sa ks i)=false:=zI ks key i (by omega);exact jM h2.2.2 h3
 ·intro x hx
  rcases Nat.lt_or_ge (Qk ks key) ks.length with h0|h0
  ·have h1:=(h.split h0).2.2;have h2:=(h1.facts hG).2.2.1 x hx;exact jM (zK ks key h0) h2.2.1
  ·rw[List.drop_of_length_le (by have:=h.len;omega)] at hx;simp at hx
end
inductive Tr where
 | leaf (pg:Nat) (cs:List En)
 | bran (pg:Nat) (ks:List ByteArray) (ts:List Tr)
def Tr.pg:Tr→Nat
 | .leaf pg _=>pg
 | .bran pg _ _=>pg
def Tr.sz:Tr→Nat
 | .leaf _ cs=>Y3 cs
 | .bran _ ks _=>T8 ks
def Tr.kids:Tr→List Tr
 | .leaf _ _=> []
 | .bran _ _ ts=>ts
mutual
/-- All entries.-/
def Tr.es:Tr→List En
 | .leaf _ cs=>cs
 | .bran _ _ ts=>esL ts
def esL:List Tr→List En
 | []=> []
 | t::r=>t.es++esL r
end
mutual
/-- The pages of nodes.-/
def Tr.pgs:Tr→List Nat
 | .leaf pg _=>if pg=0 then [] else [pg]
 | .bran pg _ ts=>(if pg=0 then [] else [pg])++Pq ts
def Pq:List Tr→List Nat
 | []=> []
 | t::r=>t.pgs++Pq r
end
mutual
/-- How many nodes lie nowhere.-/
def Tr.nw:Tr→Nat
 | .leaf pg _=>if pg=0 then 1 else 0
 | .bran pg _ ts=>(if pg=0 then 1 else 0)+nwL ts
def nwL:List Tr→Nat
 | []=>0
 | t::r=>t.nw+nwL r
end
mutual
/-- Of each node that lies somewhere.-/
def Tr.on (Q:Tr→Prop):Tr→Prop
 | .leaf pg cs=>pg≠0→Q (.leaf pg cs)
 | .bran pg ks ts=>(pg≠0→Q (.bran pg ks ts))∧onL Q ts
def onL (Q:Tr→Prop):List Tr→Prop
 | []=>True
 | t::r=>t.on Q∧onL Q r
end
theorem Rq:∀ts,esL ts=(ts.map Tr.es).flatten
 | []=>by simp[esL]
 | t::r=>by rw[esL,Rq r];simp
theorem Qv (a b:List Tr):esL (a++b)=esL a++esL b:=by rw[Rq,Rq,Rq,List.map_append,List.flatten_append]
theorem U4 (t:Tr):esL [t]=t.es:=by simp[esL]
theorem G6:∀(a b:List Tr),Pq (a++b)=Pq a++Pq b
 | [],b=>by simp[Pq]
 | t::r,b=>by rw[List.cons_append,Pq,Pq,G6 r b,List.append_assoc]
theorem YV:∀(a b:List Tr),nwL (a++b)=nwL a+nwL b
 | [],b=>by simp[nwL]
 | t::r,b=>by rw[List.cons_append,nwL,nwL,YV r b];omega
theorem zP {Q:Tr→Prop}:∀(a b:List Tr),onL Q (a++b)↔onL Q a∧onL Q b
 | [],b=>by simp[onL]
 | t::r,b=>by rw[List.cons_append,onL,onL,zP r b,and_assoc]
theorem zQ {Q:Tr→Prop}(t:Tr):onL Q [t]↔t.on Q:=by simp[onL]
theorem Tr.pgs_eq (t:Tr):t.pgs=(if t.pg=0 then [] else [t.pg])++Pq t.kids:=by
 cases t with
 | leaf pg cs=>rw[Tr.pgs,Tr.kids,Pq,List.append_nil];rfl
 | bran pg ks ts=>rw[Tr.pgs];rfl
theorem Tr.nw_eq (t:Tr):t.nw=(if t.pg=0 then 1 else 0)+nwL t.kids:=by
 cases t with
 | leaf pg cs=>rw[Tr.nw,Tr.kids,nwL,Nat.add_zero];rfl
 | bran pg ks ts=>rw[Tr.nw];rfl
theorem Tr.on_kids {Q:Tr→Prop}(t:Tr)(h:t.on Q):onL Q t.kids:=by
 cases t with
 | leaf pg cs=>simp[Tr.kids,onL]
 | bran pg ks ts=>rw[Tr.on] at h;exact h.2
theorem Tr.on_new {Q:Tr→Prop}(t:Tr)(h:t.pg=0)(h2:onL Q t.kids):t.on Q:=by
 cases t with
 | leaf pg cs=>rw[Tr.on];intro h3;exact absurd h h3
 | bran pg ks ts=>rw[Tr.on];exact⟨fun h3=>absurd h h3,h2⟩
structure Fr (a b:List Tr) (n:Nat):Prop where
 pg:∀p,(Pq b).count p≤(Pq a).count p
 nw:nwL b≤nwL a+n
 on:∀Q,onL Q a→onL Q b
theorem Fr.refl (a:List Tr):Fr a a 0:=⟨fun _=>zlr _,zlr _,fun _ h=>h⟩
theorem Fr.trans {a b c:List Tr}{n m:Nat}(h:Fr a b n)(k:Fr b c m):Fr a c (n+m):=⟨fun p=>Nat.le_trans (k.pg p) (h.pg p),by have:=h.nw;have:=k.nw;omega,fun Q q=>k.on Q (h.on Q q)⟩
theorem Fr.mono {a b:List Tr}{n m:Nat}(h:Fr a b n)(hn:n≤m):Fr a b m:=⟨h.pg,by have:=h.nw;omega,h.on⟩
theorem Fr.app {a b a2 b2:List Tr}{n m:Nat}(h:Fr a b n)(k:Fr a2 b2 m):Fr (a++a2) (b++b2) (n+m):=
 ⟨fun p=>by rw[G6,G6,List.count_append,List.count_append];exact Nat.add_le_add (h.pg p) (k.pg p),by rw[YV,YV];have:=h.nw;have:=k.nw;omega,fun Q q=>by rw[zP] at q⊢;exact⟨h.on Q q.1,k.on Q q.2⟩⟩
theorem Fr.kids (t:Tr):Fr [t] t.kids 0:=by
 refine⟨fun p=> ?_,?_,fun Q q=> ?_⟩
 ·rw[Pq,Pq,List.append_nil,Tr.pgs_eq,List.count_append];omega
 ·rw[nwL,nwL,Nat.add_zero,Tr.nw_eq];omega
 ·rw[zQ] at q;exact t.on_kids q
theorem Fr.new {a:List Tr}{t:Tr}{n:Nat}(h:Fr a t.kids n)(h0:t.pg=0):Fr a [t] (n+1):=by
 refine⟨fun p=> ?_,?_,fun Q q=> ?_⟩
 ·rw[Pq,Pq,List.append_nil,Tr.pgs_eq,if_pos h0,List.nil_append];exact h.pg p
 ·rw[nwL,nwL,Nat.add_zero,Tr.nw_eq,if_pos h0];have:=h.nw;omega
 ·rw[zQ];exact t.on_new h0 (h.on Q q)
theorem y0l {t:Tr}(h0:t.pg=0):t.nw=nwL t.kids+1:=by rw[Tr.nw_eq,if_pos h0];omega
def Iq (V:ByteArray)(k:Nat):ByteArray:=V.extract (502*k) (min (502*k+502) V.size)
def nP (n:Nat):Nat:=(n+501)/502
def pcT (V:ByteArray)(k:Nat):List ByteArray:=(List.range k).map (Iq V)
def chs (V:ByteArray):List ByteArray:=pcT V (nP V.size)
theorem z4z (V:ByteArray)(k:Nat):pcT V (k+1)=pcT V k++[Iq V k]:=by simp[pcT,List.range_succ]
theorem y0m (V:ByteArray)(k:Nat):(pcT V k).length=k:=by simp[pcT]
theorem y9e (V:ByteArray):(chs V).length=nP V.size:=y0m V _
theorem x1t (V:ByteArray)(k i:Nat)(h:i<k):sa (pcT V k) i=Iq V i:=by
 unfold sa pcT;simp[List.getD,h]
theorem zR {n k:Nat}:k<nP n↔502*k<n:=by unfold nP;omega
theorem z40 (V:ByteArray)(k:Nat):(Iq V k).size=min (502*k+502) V.size-502*k:=by
 unfold Iq;rw[ByteArray.size_extract];omega
theorem y4o {V:ByteArray}{k:Nat}(h:k+1<nP V.size):(Iq V k).size=502:=by
 have:=zR.1 h;rw[z40];omega
theorem z41 {V:ByteArray}{k:Nat}(h:k<nP V.size):1≤(Iq V k).size∧(Iq V k).size≤502:=by
 have:=zR.1 h;rw[z40];omega
def QE (V:ByteArray)(k:Nat):ByteArray:=V.extract 0 (min (502*k) V.size)
theorem y0n (V:ByteArray):QE V 0=ByteArray.empty:=by
 unfold QE;rw[Nat.mul_zero,Nat.zero_min,ByteArray.extract_eq_empty_iff];omega
theorem jQ (V:ByteArray)(k:Nat)(h:502*k≤V.size):QE V k++Iq V k=QE V (k+1):=by
 unfold QE Iq;rw[Nat.min_eq_left h,ByteArray.extract_append_extract]
 congr 1<;>omega
theorem ZJ (V:ByteArray):QE V (nP V.size)=V:=by
 unfold QE;rw[Nat.min_eq_right (by unfold nP;omega)];exact ByteArray.extract_zero_size
def E1 (p:Int):Bool:=decide (p=0)||decide (2≤p)&&decide (p<1024)
def QF (n:Int):Bool:=decide (1≤n)&&decide (n≤502)
def y4p (p:Int)(V:ByteArray):Bool:=E1 p&&QF V.size
def chE (p:Int)(V:ByteArray):Int:=if y4p p V then 0 else 1
def chB (p:Int)(V:ByteArray):List Nat:=if y4p p V then beL p.toNat 2++bn V else []
def chP (l:List Nat):Nat:=XZ (l.take 2)
def y7a (l:List Nat):Bool:=QF ((l.length:Int)-2)&&E1 (chP l)
def dcN (l:List Nat):Int:=if y7a l then (chP l:Int) else 0
def dcV (l:List Nat):ByteArray:=if y7a l then Pj (l.drop 2) else ByteArray.empty
def dcE (l:List Nat):Int:=if y7a l then 0 else 3
def y9f (x:Int):Int:=if x<1 then 0 else (x-1)/502+1
theorem x1u (n:Nat):y9f n=(nP n:Int):=by
 unfold y9f nP
 rcases Nat.eq_zero_or_pos n with rfl|h
 ·rfl
 ·rw[if_neg (by omega)];omega
theorem y7b (p:Nat)(V:ByteArray):(beL p 2++bn V).length=V.size+2:=by
 rw[zla,X5,S8];omega
theorem y0o (p:Nat)(V:ByteArray)(hp:p<1024):chP (beL p 2++bn V)=p:=by
 unfold chP;rw[List.take_append_of_le_length (by rw[X5];omega),List.take_of_length_le (by rw[X5];omega),z37,Nat.mod_eq_of_lt (by omega)]
theorem y9g (p:Nat)(V:ByteArray):(beL p 2++bn V).drop 2=bn V:=by
 rw[List.drop_append_of_le_length (by rw[X5];omega),List.drop_of_length_le (by rw[X5];omega)];rfl
theorem y9h (p:Nat)(V:ByteArray)(h:y4p p V=true):dcN (beL p 2++bn V)=p∧dcV (beL p 2++bn V)=V∧dcE (beL p 2++bn V)=0:=by
 have hp:p<1024:=by
  unfold y4p E1 at h;simp at h;omega
 have ho:y7a (beL p 2++bn V)=true:=by
  unfold y7a;rw[y0o p V hp,y7b];unfold y4p at h;rw[show(((V.size+2:Nat):Int)-2)=(V.size:Int) by omega,Bool.and_comm];exact h
 unfold dcN dcV dcE;rw[ho,y0o p V hp,y9g,YJ];exact⟨rfl,rfl,rfl⟩
theorem x1v {l:List Nat}(h:B8 l):chP l<65536:=by
 have h1:=y8a (h.take 2);rw[zlk] at h1;have h2:min 2 l.length=0∨min 2 l.length=1∨min 2 l.length=2:=by omega
 unfold chP
 rcases h2 with e|e|e<;>rw[e] at h1<;>omega
theorem y9i {l:List Nat}(h:2≤l.length):chP l=l.getD 0 0*256+l.getD 1 0:=by
 unfold chP
 match l,h with
 | a::b::r,_=>simp[XZ]
end Go.Proofs.YtdgladhfibfdlaaGreatDoor
namespace Go.Proofs.YtdgladhfibfdlaaGreatDoor
open Go.RowKit Tryz
structure RO where
 l:List En
 u:Nat→Bool
 d:Int
def Vj (u:Nat→Bool):Nat→Nat
 | 0=>0
 | n+1=>Vj u n+if u n then 0 else 1
def Jz (u:Nat→Bool)(i:Nat):Nat→Bool:=fun j=>if j=i then true else u j
theorem y0p (u:Nat→Bool)(i:Nat)(hu:u i=false):∀n,i<n→Vj (Jz u i) n+1=Vj u n:=by
 have same:∀n,n≤i→Vj (Jz u i) n=Vj u n:=by
  intro n
  induction n with
  | zero=>intro _;rfl
  | succ n ih=>
   intro h;show Vj (Jz u i) n+(if Jz u i n then 0 else 1)=Vj u n+if u n then 0 else 1
   rw[ih (by omega)];have:Jz u i n=u n:=by unfold Jz;rw[if_neg (by omega)]
   rw[this]
 intro n
 induction n with
 | zero=>intro h;omega
 | succ n ih=>
  intro h;show Vj (Jz u i) n+(if Jz u i n then 0 else 1)+1=Vj u n+if u n then 0 else 1
  by_cases hn:n=i
  ·subst hn;rw[same n (zlr _)];have:Jz u n n=true:=by unfold Jz;rw[if_pos rfl]
   rw[this,hu];simp
  ·have:Jz u i n=u n:=by unfold Jz;rw[if_neg hn]
   rw[this];have:=ih (by omega);omega
theorem zS (u:Nat→Bool):∀n,Vj u n≤n
 | 0=>zlr _
 | n+1=>by
  have:=zS u n;show Vj u n+_≤n+1;split<;>omega
section
variable (P:List (List Nat))
def T9 (o:RO)(i:Int):Option (RO×Nat×List Nat):=
 if i<2∨(P.length:Int)≤i∨o.u i.toNat=true then none
 else if (opS (P.getD i.toNat [])).2.2=0 then some (⟨o.l,Jz o.u i.toNat,o.d⟩,(opS (P.getD i.toNat [])).1,(opS (P.getD i.toNat [])).2.1) else none
def Ru (k:Nat)(b:List Nat)(s:ByteArray)(long:Int):Prop:=k≠3∨dcE b≠0∨long<(s++dcV b).size∨(dcN b≠0∧(dcV b).size<502)
instance (k:Nat) (b:List Nat) (s:ByteArray) (long:Int):Decidable (Ru k b s long):=by unfold Ru;infer_instance
def Ix:Nat→RO→ByteArray→Int→Int→Option (RO×ByteArray)
 | 0,o,s,page,long=>if page=0 then (if (s.size:Int)=long then some (o,s) else none) else none
 | f+1,o,s,page,long=>if page=0 then (if (s.size:Int)=long then some (o,s) else none) else
  match T9 P o page with
  | none=>none
  | some (o1,k,b)=>if Ru k b s long then none else Ix f o1 (s++dcV b) (dcN b) long
noncomputable def Ku (f:Nat) (s:Sp):List Ce→RO→Option RO
 | [],o=>some o
 | c::r,o=>match (if 64<c.n then Ix P f o ByteArray.empty c.p c.n else some (o,c.v)) with
  | none=>none
  | some (o1,v)=>if xR s c.k=true then Ku f s r ⟨o1.l++[⟨c.k,v,[]⟩],o1.u,o1.d⟩ else none
def Iz (s:Sp)(ks:List ByteArray)(i:Nat):Sp:=
 ⟨if 0<i then sa ks (i-1) else s.lo,if i<ks.length then sa ks i else s.hi,if i<ks.length then false else s.op⟩
def Ij (rec:RO→Int→Sp→Int→Option RO)(ks:List ByteArray)(ps:List Int)(s:Sp)(deep:Int):Nat→RO→Option RO
 | 0,o=>some o
 | t+1,o=>if 0<ps.length-(t+1)∧xR s (sa ks (ps.length-(t+1)-1))=false then none else
  match rec o (ia ps (ps.length-(t+1))) (Iz s ks (ps.length-(t+1))) (deep+1) with
  | none=>none
  | some o1=>Ij rec ks ps s deep t o1
noncomputable def Xy:Nat→RO→Int→Sp→Int→Option RO
 | 0,_,_,_,_=>none
 | f+1,o,page,s,deep=>match T9 P o page with
  | none=>none
  | some (o1,k,b)=>if 1<deep∧b.length<126 then none
   else if k=1 then (match L9 b with
    | none=>none
    | some cs=>if cs=[]∨(0<o1.d∧o1.d≠deep) then none else Ku P f s cs ⟨o1.l,o1.u,deep⟩)
   else if k=2 then (match S9 b with
    | none=>none
    | some (ks,ps)=>Ij (Xy f) ks ps s deep ps.length o1)
   else none
noncomputable def jR (root:Int):Option RO:=
 if root=0 then some ⟨[],fun _=>false,0⟩ else Xy P (P.length+1) ⟨[],fun _=>false,0⟩ root ⟨ByteArray.empty,ByteArray.empty,true⟩ 1
theorem Rk {o o1:RO}{i:Int}{k:Nat}{b:List Nat}(h:T9 P o i=some (o1,k,b)):
  2≤i∧i<P.length∧o.u i.toNat=false∧(opS (P.getD i.toNat [])).2.2=0∧o1=⟨o.l,Jz o.u i.toNat,o.d⟩∧k=(opS (P.getD i.toNat [])).1∧b=(opS (P.getD i.toNat [])).2.1:=by
 unfold T9 at h;split at h
 ·cases h
 ·rename_i h1
  split at h
  ·rename_i h2
   simp only[Option.some.injEq,Prod.mk.injEq] at h;obtain⟨rfl,rfl,rfl⟩:=h;refine⟨by omega,by omega,?_,h2,rfl,rfl,rfl⟩
   cases hu:o.u i.toNat with
   | false=>rfl
   | true=>exact absurd (.inr (.inr hu)) h1
  ·cases h
theorem Sz {o o1:RO}{i:Int}{k:Nat}{b:List Nat}(h:T9 P o i=some (o1,k,b)):Vj o1.u P.length+1=Vj o.u P.length∧o1.l=o.l∧o1.d=o.d:=by
 obtain⟨h1,h2,h3,_,rfl,_⟩:=Rk P h;exact⟨y0p o.u i.toNat h3 P.length (by omega),rfl,rfl⟩
theorem Tv:∀(f:Nat) (o:RO) (s:ByteArray) (page long:Int) (o1:RO) (v:ByteArray),Ix P f o s page long=some (o1,v)→Vj o1.u P.length≤Vj o.u P.length∧o1.l=o.l∧o1.d=o.d
 | 0,o,s,page,long,o1,v,h=>by
  unfold Ix at h;split at h
  ·split at h
   ·cases h;exact⟨zlr _,rfl,rfl⟩
   ·cases h
  ·cases h
 | f+1,o,s,page,long,o1,v,h=>by
  unfold Ix at h;split at h
  ·split at h
   ·cases h;exact⟨zlr _,rfl,rfl⟩
   ·cases h
  ·split at h
   ·cases h
   ·rename_i o2 k b ho
    split at h
    ·cases h
    ·obtain⟨h1,h2,h3⟩:=Tv f o2 _ _ _ o1 v h;obtain⟨g1,g2,g3⟩:=Sz P ho;exact⟨by omega,h2.trans g2,h3.trans g3⟩
theorem JA (f:Nat)(s:Sp):∀(cs:List Ce) (o o1:RO),Ku P f s cs o=some o1→Vj o1.u P.length≤Vj o.u P.length∧o1.l.length=o.l.length+cs.length
 | [],o,o1,h=>by
  unfold Ku at h;cases h;exact⟨zlr _,by simp⟩
 | c::r,o,o1,h=>by
  unfold Ku at h;split at h
  ·cases h
  ·rename_i o2 v hv
   split at h
   ·obtain⟨h1,h2⟩:=JA f s r _ o1 h;have h3:Vj o2.u P.length≤Vj o.u P.length∧o2.l=o.l:=by
     split at hv
     ·obtain⟨a,b,_⟩:=Tv P f _ _ _ _ _ _ hv;exact⟨a,b⟩
     ·cases hv;exact⟨zlr _,rfl⟩
    dsimp only at h1 h2;rw[zla,h3.2] at h2;refine⟨by omega,?_⟩;rw[h2,List.length_cons,List.length_cons,List.length_nil];omega
   ·cases h
theorem JB:∀(n:Nat) (l:List Nat) (cs:List Ce) (r:List Nat),Mv n l=some (cs,r)→cs.length=n
 | 0,l,cs,r,h=>by unfold Mv at h;cases h;rfl
 | n+1,l,cs,r,h=>by
  unfold Mv at h;split at h
  ·cases h
  ·rename_i cs1 r1 h1
   have h2:=JB n l cs1 r1 h1;split at h
   ·cases h
   ·split at h
    ·cases h;rw[zla,h2];rfl
    ·cases h
theorem z42 {l:List Nat}{cs:List Ce}(h:L9 l=some cs):cs.length≤504:=by
 unfold L9 at h;split at h
 ·cases h
 ·split at h
  ·cases h
  ·split at h
   ·cases h
   ·rename_i cs1 r h1
    split at h
    ·cases h
     rw[JB _ _ _ _ h1];exact z1w _ _
    ·cases h
def y0q (o o1:RO):Prop:=Vj o1.u P.length≤Vj o.u P.length∧o1.l.length+504*Vj o1.u P.length≤o.l.length+504*Vj o.u P.length
theorem y0q.refl (o:RO):y0q P o o:=⟨zlr _,zlr _⟩
theorem y0q.trans {a b c:RO}(h:y0q P a b)(k:y0q P b c):y0q P a c:=⟨znt k.1 h.1,znt k.2 h.2⟩
theorem z43 (rec:RO→Int→Sp→Int→Option RO)(ks:List ByteArray)(ps:List Int)(s:Sp)(deep:Int)(hr:∀o p s d o1,rec o p s d=some o1→y0q P o o1):∀(t:Nat) (o o1:RO),Ij rec ks ps s deep t o=some o1→y0q P o o1
 | 0,o,o1,h=>by unfold Ij at h;cases h;exact y0q.refl P _
 | t+1,o,o1,h=>by
  unfold Ij at h;split at h
  ·cases h
  ·split at h
   ·cases h
   ·rename_i o2 h2
    exact(hr _ _ _ _ _ h2).trans P (z43 rec ks ps s deep hr t o2 o1 h)
theorem z44:∀(f:Nat) (o:RO) (page:Int) (s:Sp) (deep:Int) (o1:RO),Xy P f o page s deep=some o1→y0q P o o1
 | 0,o,page,s,deep,o1,h=>by unfold Xy at h;cases h
 | f+1,o,page,s,deep,o1,h=>by
  unfold Xy at h;split at h
  ·cases h
  ·rename_i o2 k b ho
   obtain⟨g1,g2,g3⟩:=Sz P ho;split at h
   ·cases h
   ·split at h
    ·split at h
     ·cases h
     ·rename_i cs hcs
      split at h
      ·cases h
      ·obtain⟨h1,h2⟩:=JA P f s cs _ o1 h;dsimp only at h1 h2;have:=z42 hcs;rw[g2] at h2;exact⟨by omega,by omega⟩
    ·split at h
     ·split at h
      ·cases h
      ·have h1:=z43 P (Xy P f) _ _ s deep (fun o p s d o1 hh=>z44 f o p s d o1 hh) _ _ _ h;have h0:y0q P o o2:=⟨by omega,by rw[g2];omega⟩
       exact h0.trans P h1
     ·cases h
end
end Go.Proofs.YtdgladhfibfdlaaGreatDoor
