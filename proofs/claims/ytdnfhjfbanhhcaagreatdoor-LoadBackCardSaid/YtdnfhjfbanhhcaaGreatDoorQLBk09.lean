/-
  Steps.
-/
import Derived.Test.YtdnfhjfbanhhcaaGreatDoorQLBk08
namespace Go.Proofs.YtdnfhjfbanhhcaaGreatDoor
open Go Go.RowKit
structure En where
 k:ByteArray
 v:ByteArray
 ch:List Nat
instance :Inhabited En:=⟨⟨ByteArray.empty,ByteArray.empty,[]⟩⟩
def ea (es:List En)(i:Nat):En:=es.getD i default
theorem y4d (A M:List En)(i:Nat):ea (A++M) (A.length+i)=ea M i:=by
 unfold ea;simp only[List.getD];rw[List.getElem?_append_right (by omega),Nat.add_sub_cancel_left]
theorem x3d (A M:List En)(i:Nat)(h:i<A.length):ea (A++M) i=ea A i:=by
 unfold ea;simp[List.getD,List.getElem?_append_left h]
theorem q13 (e:En)(r:List En)(i:Nat):ea (e::r) (i+1)=ea r i:=rfl
theorem z4e {es:List En}{i:Nat}(h:i<es.length):ea es i∈es:=by
 unfold ea;simp[List.getD,h]
theorem z7b (es:List En)(k:Nat)(h:k<es.length):es.take (k+1)=es.take k++[ea es k]:=by
 rw[List.take_succ_eq_append_getElem h];simp[ea,List.getD,h]
theorem y17 (es:List En)(k:Nat)(h:k<es.length):es.drop k=ea es k::es.drop (k+1):=by
 rw[List.drop_eq_getElem_cons h];simp[ea,List.getD,h]
abbrev SB:=Option ByteArray
theorem z44 {a b:ByteArray}(h:blt a b=true):blt b a=false:=by rw[z4h] at h;rw[z5m];grind
theorem q14 {a b:ByteArray}(h:blt a b=true):(b.toList==a.toList)=false:=by
 rw[z4h] at h;rw[beq_eq_false_iff_ne,Lib.toList_data,Lib.toList_data];intro e;have e2:bl b=bl a:=e;rw[e2] at h;grind
theorem z9d {a b:ByteArray}(h:(a.toList==b.toList)=true):a=b:=by
 rw[beq_iff_eq,Lib.toList_data,Lib.toList_data] at h;exact y7w h
theorem x7p (a:ByteArray):(a.toList==a.toList)=true:=by simp
theorem q15 {a b:ByteArray}(h:blt a b=false)(h2:(a.toList==b.toList)=false):blt b a=true:=by
 rw[z5m] at h;rw[beq_eq_false_iff_ne,Lib.toList_data,Lib.toList_data] at h2;rw[z4h];grind
theorem q0b {a b c:ByteArray}(h:blt b a=false)(k:blt b c=true):blt a c=true:=by
 rw[z5m] at h;rw[z4h] at*;grind
theorem y4e {a b c:ByteArray}(h:blt a b=true)(k:blt c b=false):blt a c=true:=by
 rw[z5m] at k;rw[z4h] at*;grind
theorem x3e {a b c:ByteArray}(h:blt b a=false)(k:blt c b=false):blt c a=false:=by
 rw[z5m] at*;grind
def fE:List En→ByteArray→Nat
 | [],_=>0
 | e::r,key=>if blt e.k key=true then fE r key+1 else 0
def isE:List En→ByteArray→Bool
 | [],_=>false
 | e::r,key=>if blt e.k key=true then isE r key else e.k.toList==key.toList
def z12 (es:List En)(key:ByteArray):Nat:=if isE es key=true then 1 else 0
def rep (es:List En)(key:ByteArray)(o:List En):List En:=es.take (fE es key)++(o++es.drop (fE es key+z12 es key))
def getE (es:List En)(key:ByteArray):ByteArray:=if isE es key=true then (ea es (fE es key)).v else ByteArray.empty
theorem y18:∀(es:List En) (key:ByteArray),fE es key+z12 es key≤es.length
 | [],key=>by simp[fE,z12,isE]
 | e::r,key=>by
  have h1:=y18 r key;have e1:fE (e::r) key=if blt e.k key=true then fE r key+1 else 0:=rfl
  have e2:isE (e::r) key=if blt e.k key=true then isE r key else e.k.toList==key.toList:=rfl
  unfold z12 at*;rw[e1,e2]
  cases h:blt e.k key
  ·simp only[Bool.false_eq_true,if_false,List.length_cons];split<;>omega
  ·simp only[if_true,List.length_cons];omega
theorem q16:∀(es:List En) (key:ByteArray) (i:Nat),i<fE es key→blt (ea es i).k key=true
 | [],_,i,h=>by simp[fE] at h
 | e::r,key,i,h=>by
  unfold fE at h
  cases h2:blt e.k key
  ·rw[h2] at h;simp at h
  ·rw[h2] at h;simp only[if_true] at h
   cases i with
   | zero=>exact h2
   | succ i=>exact q16 r key i (by omega)
theorem q17:∀(es:List En) (key:ByteArray),fE es key<es.length→blt (ea es (fE es key)).k key=false
 | [],_,h=>by simp[fE] at h
 | e::r,key,h=>by
  unfold fE at h⊢
  cases h2:blt e.k key
  ·simp only[Bool.false_eq_true,if_false];exact h2
  ·rw[h2] at h;simp only[if_true,List.length_cons] at h⊢
   exact q17 r key (by omega)
theorem y4f:∀(es:List En) (key:ByteArray),isE es key=(decide (fE es key<es.length)&&((ea es (fE es key)).k.toList==key.toList))
 | [],key=>by simp[isE,fE]
 | e::r,key=>by
  unfold isE fE
  cases h2:blt e.k key
  ·simp only[Bool.false_eq_true,if_false];have:ea (e::r) 0=e:=rfl;rw[this];simp
  ·simp only[if_true];rw[q13,y4f r key];simp
def srt (es:List En):Prop:=es.Pairwise (fun a b=>blt a.k b.k=true)
theorem x3f {es:List En}(hs:srt es){i j:Nat}(hij:i<j)(hj:j<es.length):blt (ea es i).k (ea es j).k=true:=by
 have h:=List.pairwise_iff_getElem.1 hs i j (by omega) hj hij;have e1:ea es i=es[i]:=by unfold ea;simp[List.getD,show i<es.length by omega]
 have e2:ea es j=es[j]:=by unfold ea;simp[List.getD,hj]
 rw[e1,e2];exact h
theorem fE_ge {es:List En}(hs:srt es)(key:ByteArray)(i:Nat)(hi:fE es key≤i)(hl:i<es.length):blt (ea es i).k key=false:=by
 have h1:=q17 es key (by omega)
 rcases Nat.lt_or_ge (fE es key) i with h2|h2
 ·have h3:=x3f hs h2 hl;have h4:=z44 h3;exact x3e h1 h4
 ·obtain rfl:i=fE es key:=by omega
  exact h1
theorem x3g:∀(es:List En) (key:ByteArray),∀e∈es.take (fE es key),blt e.k key=true
 | [],key,e,h=>by simp at h
 | x::r,key,e,h=>by
  unfold fE at h
  cases h2:blt x.k key
  ·rw[h2] at h;simp at h
  ·rw[h2] at h;simp only[if_true,List.take_succ_cons,List.mem_cons] at h
   rcases h with rfl|h
   ·exact h2
   ·exact x3g r key e h
theorem x3h:∀(es:List En) (key:ByteArray),srt es→∀e∈es.drop (fE es key+z12 es key),blt key e.k=true
 | [],key,_,e,h=>by simp at h
 | x::r,key,hs,e,h=>by
  have hs':=List.pairwise_cons.1 hs;unfold fE z12 isE at h
  cases h2:blt x.k key
  ·rw[h2] at h;simp only[Bool.false_eq_true,if_false] at h
   cases h3:(x.k.toList==key.toList)
   ·rw[h3] at h;simp only[Bool.false_eq_true,if_false,Nat.add_zero,List.drop_zero,List.mem_cons] at h;have h4:=q15 h2 h3
    rcases h with rfl|h
    ·exact h4
    ·exact z3q h4 (hs'.1 e h)
   ·rw[h3] at h;simp only[if_true,Nat.zero_add,List.drop_succ_cons,List.drop_zero] at h;rw[←z9d h3];exact hs'.1 e h
  ·rw[h2] at h;simp only[if_true] at h;rw[show fE r key+1+(if isE r key=true then 1 else 0)=(fE r key+z12 r key)+1 by unfold z12;omega,List.drop_succ_cons] at h;exact x3h r key hs'.2 e h
theorem q18 {A:List En}{key:ByteArray}(hA:∀e∈A,blt e.k key=true)(M:List En):fE (A++M) key=A.length+fE M key∧isE (A++M) key=isE M key:=by
 induction A with
 | nil=>simp
 | cons a r ih=>
  have h1:=hA a (by simp);have h2:=ih (fun e he=>hA e (by simp[he]));constructor
  ·rw[List.cons_append,fE,if_pos h1,h2.1,List.length_cons];omega
  ·rw[List.cons_append,isE,if_pos h1,h2.2]
theorem y8n {B:List En}{key:ByteArray}(hB:∀e∈B,blt key e.k=true):∀M:List En,fE (M++B) key=fE M key∧isE (M++B) key=isE M key
 | []=>by
  cases B with
  | nil=>simp
  | cons b r=>
   have h1:=hB b (by simp);have h2:=z44 h1;have h3:=q14 h1;constructor
   ·simp[fE,h2]
   ·simp[isE,h2,h3]
 | m::r=>by
  have h:=y8n hB r;constructor
  ·rw[List.cons_append,fE,fE,h.1]
  ·rw[List.cons_append,isE,isE,h.2]
theorem x3i {A B:List En}{key:ByteArray}(hA:∀e∈A,blt e.k key=true)(hB:∀e∈B,blt key e.k=true)(M:List En):fE (A++(M++B)) key=A.length+fE M key∧isE (A++(M++B)) key=isE M key:=by
 have h1:=q18 hA (M++B);have h2:=y8n hB M;exact⟨by rw[h1.1,h2.1],by rw[h1.2,h2.2]⟩
theorem q19 {A B:List En}{key:ByteArray}(hA:∀e∈A,blt e.k key=true)(hB:∀e∈B,blt key e.k=true)(M o:List En):rep (A++(M++B)) key o=A++(rep M key o++B):=by
 have h:=x3i hA hB M;have hl:=y18 M key;unfold rep z12 at*;rw[h.1,h.2];have e1:(A++(M++B)).take (A.length+fE M key)=A++M.take (fE M key):=by
  rw[List.take_length_add_append,List.take_append_of_le_length (by omega)]
 have e2:(A++(M++B)).drop (A.length+fE M key+(if isE M key=true then 1 else 0))=M.drop (fE M key+(if isE M key=true then 1 else 0))++B:=by
  rw[Nat.add_assoc,List.drop_length_add_append,List.drop_append_of_le_length (by omega)]
 rw[e1,e2];simp only[List.append_assoc]
theorem x7q {A B:List En}{key:ByteArray}(hA:∀e∈A,blt e.k key=true)(hB:∀e∈B,blt key e.k=true)(M:List En):getE (A++(M++B)) key=getE M key:=by
 have h:=x3i hA hB M;have hl:=y18 M key;unfold getE z12 at*;rw[h.1,h.2]
 by_cases h2:isE M key=true
 ·rw[if_pos h2,if_pos h2,y4d,x3d _ _ _ (by rw[if_pos h2] at hl;omega)]
 ·rw[if_neg h2,if_neg h2]
def oneO (key:ByteArray)(o:List En):Prop:=o=[]∨∃v,o=[⟨key,v,[]⟩]
theorem x3j {es:List En}{key:ByteArray}{o:List En}{e:En}(h:e∈rep es key o):e∈es∨e∈o:=by
 unfold rep at h;simp only[List.mem_append] at h
 rcases h with h|h|h
 ·exact .inl (List.mem_of_mem_take h)
 ·exact .inr h
 ·exact .inl (List.mem_of_mem_drop h)
theorem q2a {es:List En}{key:ByteArray}{o:List En}(hs:srt es)(ho:oneO key o):srt (rep es key o):=by
 unfold rep srt;have h1:=x3g es key;have h2:=x3h es key hs;rw[List.pairwise_append,List.pairwise_append];refine⟨hs.take,⟨?_,hs.drop,?_⟩,?_⟩
 ·rcases ho with rfl|⟨v,rfl⟩<;>simp
 ·intro a ha b hb
  rcases ho with rfl|⟨v,rfl⟩
  ·cases ha
  ·simp only[List.mem_singleton] at ha;subst ha;exact h2 b hb
 ·intro a ha b hb
  rcases List.mem_append.1 hb with hb|hb
  ·rcases ho with rfl|⟨v,rfl⟩
   ·cases hb
   ·simp only[List.mem_singleton] at hb;subst hb;exact h1 a ha
  ·exact z3q (h1 a ha) (h2 b hb)
theorem z7c (es:List En)(key:ByteArray)(o:List En):(rep es key o).length+z12 es key=es.length+o.length:=by
 have:=y18 es key;unfold rep;simp only[zla,zlk,zld];omega
def okE (e:En):Prop:=okK e.k=true∧e.v.size≤2048
def szE (e:En):Nat:=z32 e.k (e.v.size:Int)
def szs (es:List En):Nat:=(es.map szE).sum
def z0s (es:List En):Nat:=vs es.length+szs es
def kss (ks:List ByteArray):Nat:=(ks.map (fun k=>3+k.size)).sum
def brSz (ks:List ByteArray):Nat:=2+kss ks
theorem z6h {e:En}(h:okE e):3≤szE e∧szE e≤106:=by
 have h1:=z1a h.1;have h2:=h.2;unfold szE z32;rw[z1k (show e.k.size<128 by omega),show((e.v.size:Int)).toNat=e.v.size from rfl]
 by_cases h3:e.v.size≤64
 ·rw[if_pos (by omega),z1k (by omega)];omega
 ·rw[if_neg (by omega)];have h4:vs e.v.size≤2:=z7u 2 _ (by omega) (by omega);have:=z3n e.v.size;omega
theorem z7d (a b:List En):szs (a++b)=szs a+szs b:=by unfold szs;rw[List.map_append,List.sum_append]
theorem y19 (e:En)(b:List En):szs (e::b)=szE e+szs b:=by unfold szs;simp
theorem z1i:∀{es:List En},(∀e∈es,okE e)→3*es.length≤szs es∧szs es≤106*es.length
 | [],_=>by simp[szs]
 | e::r,h=>by
  have h1:=z6h (h e (by simp));have h2:=z1i (es:=r) (fun x hx=>h x (by simp[hx]));rw[y19,List.length_cons];omega
theorem z5r (a b:List ByteArray):kss (a++b)=kss a+kss b:=by unfold kss;rw[List.map_append,List.sum_append]
theorem y2a (k:ByteArray)(b:List ByteArray):kss (k::b)=3+k.size+kss b:=by unfold kss;simp
theorem z0u:∀{ks:List ByteArray},(∀k∈ks,okK k=true)→4*ks.length≤kss ks∧kss ks≤43*ks.length
 | [],_=>by simp[kss]
 | k::r,h=>by
  have h1:=z1a (h k (by simp));have h2:=z0u (ks:=r) (fun x hx=>h x (by simp[hx]));rw[y2a,List.length_cons];omega
def szI (es:List En):List Int:=es.map fun e=>((szE e:Nat):Int)
def ksI (ks:List ByteArray):List Int:=ks.map fun k=>((3+k.size:Nat):Int)
theorem x3k (l:List Nat):(l.map (fun n:Nat=>(n:Int))).sum=((l.sum:Nat):Int):=by
 induction l with
 | nil=>rfl
 | cons a r ih=>rw[List.map_cons,List.sum_cons,List.sum_cons,ih];omega
theorem y8o (es:List En)(a:Nat):pf (szI es) a=((szs (es.take a):Nat):Int):=by
 unfold pf szI szs;rw[←x3k,←List.map_take,List.map_map];rfl
theorem y8p (ks:List ByteArray)(a:Nat):pf (ksI ks) a=((kss (ks.take a):Nat):Int):=by
 unfold pf ksI kss;rw[←x3k,←List.map_take,List.map_map];rfl
theorem x3l (es:List En)(i:Nat)(h:i<es.length):ia (szI es) i=((szE (ea es i):Nat):Int):=by
 unfold ia szI ea;simp[List.getD,h]
theorem x3m (ks:List ByteArray)(i:Nat)(h:i<ks.length):ia (ksI ks) i=((3+(sa ks i).size:Nat):Int):=by
 unfold ia ksI sa;simp[List.getD,h]
theorem mids {l:List Int}(b:Int)(hb:0≤b∧b≤2)(hs:∀i,i<l.length→1≤ia l i∧ia l i≤112)(hn:l.length≤1000)(h1:503≤pf l l.length)(h2:pf l l.length≤700):
  spE l b=0∧∃a:Nat,spN l b=(a:Int)∧1≤a∧a<l.length∧180≤pf l a∧pf l a≤410∧180≤pf l l.length-pf l a∧pf l l.length-pf l a≤410:=by
 have hok:okTo l l.length:=fun i hi=>(z3i _).2 (by have:=hs i hi;omega)
 obtain⟨a,ha1,ha2,ha3,ha4⟩:=y3u hs ((pf l l.length-111)/2) (by omega) l.length (zlr _) (by omega);have hz:=z5o l;have ha0:1≤a:=by
  rcases Nat.eq_zero_or_pos a with h|h
  ·subst h;omega
  ·exact h
 have han:a<l.length:=by
  rcases zng a l.length with h|h
  ·exact h
  ·obtain rfl:a=l.length:=by omega
   omega
 have hbr:=z82 l (l.length-2);have hbl:=y3t l (l.length-2) a ha0 (by omega);have hga:gr l a≤406∧2*gr l a≤pf l l.length+113:=by unfold gr;omega
 have hc:canB l b=true:=(z8h l b).2 ⟨by omega,by omega,(z3i b).2 (by omega),hok⟩;have hy:=x97 hc (by omega);have hgb:gr l (bst l (l.length-2))=max (pf l (bst l (l.length-2))) (pf l l.length-pf l (bst l (l.length-2))):=rfl;exact⟨hy.2,bst l (l.length-2),hy.1,hbr.1,by omega,by omega,by omega,by omega,by omega⟩
def En.bare (e:En):En:=⟨e.k,e.v,[]⟩
def bare (es:List En):List En:=es.map En.bare
theorem z1p (es:List En):(bare es).length=es.length:=by unfold bare;simp
theorem z6i (a b:List En):bare (a++b)=bare a++bare b:=by unfold bare;simp
theorem x3n (es:List En):bare (bare es)=bare es:=by unfold bare;rw[List.map_map];rfl
theorem x3o (es:List En)(k:Nat):bare (es.take k)=(bare es).take k:=by unfold bare;rw[List.map_take]
theorem x3p (es:List En)(k:Nat):bare (es.drop k)=(bare es).drop k:=by unfold bare;rw[List.map_drop]
theorem x3q (es:List En)(i:Nat):ea (bare es) i=(ea es i).bare:=by
 unfold ea bare;simp only[List.getD,List.getElem?_map]
 cases es[i]? <;>rfl
theorem z4o:∀(es:List En) (key:ByteArray),fE (bare es) key=fE es key∧isE (bare es) key=isE es key
 | [],_=>⟨rfl,rfl⟩
 | e::r,key=>by
  have h:=z4o r key;have e1:bare (e::r)=e.bare::bare r:=rfl;rw[e1];unfold fE isE;rw[h.1,h.2];exact⟨rfl,rfl⟩
theorem y4g (es:List En)(key:ByteArray):getE (bare es) key=getE es key:=by
 unfold getE;rw[(z4o es key).1,(z4o es key).2,x3q];rfl
theorem x7r (es:List En)(key:ByteArray)(o:List En):bare (rep es key o)=rep (bare es) key (bare o):=by
 unfold rep z12;rw[(z4o es key).1,(z4o es key).2,z6i,z6i,x3o,x3p]
theorem x7s {es:List En}(h:srt es):srt (bare es):=by
 unfold srt bare;rw[List.pairwise_map];exact h
theorem y8q {es:List En}(h:∀x∈es,x.ch=[]):bare es=es:=by
 unfold bare
 conv=>rhs;rw[←List.map_id es]
 refine List.map_congr_left (fun x hx=> ?_);have:=h x hx
 cases x with
 | mk k v c=>simp only at this;rw[this];rfl
def ltO:SB→SB→Prop
 | some a,some b=>blt a b=true
 | _,_=>True
def geO:SB→ByteArray→Prop
 | some a,k=>blt k a=false
 | none,_=>True
def ltK:ByteArray→SB→Prop
 | k,some b=>blt k b=true
 | _,none=>True
def ins (lo hi:SB)(k:ByteArray):Prop:=geO lo k∧ltK k hi
theorem y4h {a c:SB}{b:ByteArray}(h:ltO a (some b))(k:ltO (some b) c):ltO a c:=by
 cases a with
 | none=>trivial
 | some a=>cases c with
  | none=>trivial
  | some c=>exact z3q h k
theorem y8r {lo hi:SB}{m k:ByteArray}(h:ins lo (some m) k)(hm:ltO (some m) hi):ins lo hi k:=by
 refine⟨h.1,?_⟩
 cases hi with
 | none=>trivial
 | some b=>exact z3q h.2 hm
theorem y4i {lo hi:SB}{m k:ByteArray}(h:ins (some m) hi k)(hm:ltO lo (some m)):ins lo hi k:=by
 refine⟨?_,h.2⟩
 cases lo with
 | none=>trivial
 | some a=>exact z44 (y4e hm h.1)
theorem q4j {lo hi:SB}{k:ByteArray}(h:ins lo hi k):ltO lo hi:=by
 cases lo with
 | none=>trivial
 | some a=>cases hi with
  | none=>trivial
  | some b=>exact q0b h.1 h.2
def KRow {β:Type}(G:SB→SB→Nat→β→Prop):List ByteArray→SB→SB→List Nat→List β→Prop
 | [],lo,hi,ps,ess=>∃p e,ps=[p]∧ess=[e]∧G lo hi p e
 | k::ks,lo,hi,ps,ess=>∃p ps' e ess',ps=p::ps'∧ess=e::ess'∧G lo (some k) p e∧okK k=true∧KRow G ks (some k) hi ps' ess'
section
variable {β:Type} {G:SB→SB→Nat→β→Prop}
theorem KRow.len:∀{ks:List ByteArray} {lo hi:SB} {ps:List Nat} {ess:List β},KRow G ks lo hi ps ess→ps.length=ks.length+1∧ess.length=ks.length+1
 | [],_,_,_,_,h=>by obtain⟨p,e,rfl,rfl,_⟩:=h;exact⟨rfl,rfl⟩
 | k::ks,_,_,_,_,h=>by
  obtain⟨p,ps',e,ess',rfl,rfl,_,_,h⟩:=h;have:=KRow.len h;simp only[List.length_cons];omega
theorem KRow.mono {G':SB→SB→Nat→β→Prop}(hG:∀lo hi p e,G lo hi p e→G' lo hi p e):∀{ks:List ByteArray} {lo hi:SB} {ps:List Nat} {ess:List β},KRow G ks lo hi ps ess→KRow G' ks lo hi ps ess
 | [],_,_,_,_,h=>by obtain⟨p,e,rfl,rfl,h⟩:=h;exact⟨p,e,rfl,rfl,hG _ _ _ _ h⟩
 | k::ks,_,_,_,_,h=>by
  obtain⟨p,ps',e,ess',rfl,rfl,h1,h2,h⟩:=h;exact⟨p,ps',e,ess',rfl,rfl,hG _ _ _ _ h1,h2,KRow.mono hG h⟩
theorem KRow.append:∀{ks:List ByteArray} {lo hi:SB} {ps:List Nat} {ess:List β} {k:ByteArray} {ks2:List ByteArray} {ps2:List Nat} {ess2:List β},
  KRow G ks lo (some k) ps ess→okK k=true→KRow G ks2 (some k) hi ps2 ess2→KRow G (ks++k::ks2) lo hi (ps++ps2) (ess++ess2)
 | [],_,_,_,_,_,_,_,_,h,hk,h2=>by
  obtain⟨p,e,rfl,rfl,h⟩:=h;exact⟨p,_,e,_,rfl,rfl,h,hk,h2⟩
 | x::ks,_,_,_,_,_,_,_,_,h,hk,h2=>by
  obtain⟨p,ps',e,ess',rfl,rfl,h1,h3,h⟩:=h;exact⟨p,_,e,_,rfl,rfl,h1,h3,KRow.append h hk h2⟩
theorem KRow.split:∀{ks:List ByteArray} {lo hi:SB} {ps:List Nat} {ess:List β} {i:Nat},KRow G ks lo hi ps ess→i<ks.length→
  KRow G (ks.take i) lo (some (sa ks i)) (ps.take (i+1)) (ess.take (i+1))∧okK (sa ks i)=true∧KRow G (ks.drop (i+1)) (some (sa ks i)) hi (ps.drop (i+1)) (ess.drop (i+1))
 | [],_,_,_,_,_,_,hi=>by simp at hi
 | k::ks,_,_,_,_,0,h,_=>by
  obtain⟨p,ps',e,ess',rfl,rfl,h1,h3,h⟩:=h;exact⟨⟨p,e,rfl,rfl,h1⟩,h3,h⟩
 | k::ks,_,_,_,_,i+1,h,hi=>by
  obtain⟨p,ps',e,ess',rfl,rfl,h1,h3,h⟩:=h;obtain⟨a,b,c⟩:=KRow.split (i:=i) h (by simpa using hi);exact⟨⟨p,_,e,_,rfl,rfl,h1,h3,a⟩,b,c⟩
def lob (lo:SB)(ks:List ByteArray)(i:Nat):SB:=if i=0 then lo else some (sa ks (i-1))
def hib (hi:SB)(ks:List ByteArray)(j:Nat):SB:=if j<ks.length then some (sa ks j) else hi
theorem y2b (ks:List ByteArray)(k:Nat)(h:k<ks.length):ks.drop k=sa ks k::ks.drop (k+1):=by
 rw[List.drop_eq_getElem_cons h];simp[sa,List.getD,h]
theorem KRow.right {ks:List ByteArray}{lo hi:SB}{ps:List Nat}{ess:List β}{j:Nat}(h:KRow G ks lo hi ps ess)(hj:j≤ks.length):
  KRow G (ks.take j) lo (hib hi ks j) (ps.take (j+1)) (ess.take (j+1))∧
  ∀lo' ks' ps' ess',KRow G ks' lo' (hib hi ks j) ps' ess'→KRow G (ks'++ks.drop j) lo' hi (ps'++ps.drop (j+1)) (ess'++ess.drop (j+1)):=by
 have hl:=h.len;unfold hib
 rcases zng j ks.length with h1|h1
 ·rw[if_pos h1];obtain⟨a,b,c⟩:=h.split h1;refine⟨a,fun lo' ks' ps' ess' h2=> ?_⟩;rw[y2b ks j h1];exact h2.append b c
 ·rw[if_neg (by omega),zlw h1,List.take_of_length_le (by omega),List.take_of_length_le (by omega)];refine⟨h,fun lo' ks' ps' ess' h2=> ?_⟩;rw[List.drop_of_length_le h1,List.drop_of_length_le (by omega),List.drop_of_length_le (by omega),List.append_nil,List.append_nil,List.append_nil];exact h2
theorem KRow.left {ks:List ByteArray}{lo hi:SB}{ps:List Nat}{ess:List β}{i:Nat}(h:KRow G ks lo hi ps ess)(hi':i≤ks.length):
  KRow G (ks.drop i) (lob lo ks i) hi (ps.drop i) (ess.drop i)∧
  ∀hi2 ks' ps' ess',KRow G ks' (lob lo ks i) hi2 ps' ess'→KRow G (ks.take i++ks') lo hi2 (ps.take i++ps') (ess.take i++ess'):=by
 cases i with
 | zero=>
  have e:lob lo ks 0=lo:=rfl;rw[e];exact⟨h,fun _ _ _ _ h2=>h2⟩
 | succ i=>
  obtain⟨a,b,c⟩:=h.split (i:=i) (by omega);have e:lob lo ks (i+1)=some (sa ks i):=rfl;rw[e];refine⟨c,fun hi2 ks' ps' ess' h2=> ?_⟩;rw[y6d ks i (by omega),List.append_assoc];exact a.append b h2
theorem KRow.cut {ks:List ByteArray}{lo hi:SB}{ps:List Nat}{ess:List β}{i j:Nat}(h:KRow G ks lo hi ps ess)(hij:i≤j)(hj:j≤ks.length):
  KRow G ((ks.take j).drop i) (lob lo ks i) (hib hi ks j) ((ps.take (j+1)).drop i) ((ess.take (j+1)).drop i)∧
  ∀ks' ps' ess',KRow G ks' (lob lo ks i) (hib hi ks j) ps' ess'→KRow G (ks.take i++(ks'++ks.drop j)) lo hi (ps.take i++(ps'++ps.drop (j+1))) (ess.take i++(ess'++ess.drop (j+1))):=by
 have hR:=h.right hj;have hL:=h.left (i:=i) (by omega);have hRL:=hR.1.left (i:=i) (by rw[zlk];omega);have e:lob lo (ks.take j) i=lob lo ks i:=by
  unfold lob
  by_cases h0:i=0
  ·rw[if_pos h0,if_pos h0]
  ·rw[if_neg h0,if_neg h0];have:sa (ks.take j) (i-1)=sa ks (i-1):=by unfold sa;simp[List.getD,show i-1<j by omega]
   rw[this]
 rw[e] at hRL;exact⟨hRL.1,fun ks' ps' ess' h2=>hL.2 _ _ _ _ (hR.2 _ _ _ _ h2)⟩
theorem KRow.map {γ:Type}{G':SB→SB→Nat→γ→Prop}(f:β→γ)(hG:∀lo hi p e,G lo hi p e→G' lo hi p (f e)):∀{ks:List ByteArray} {lo hi:SB} {ps:List Nat} {ess:List β},KRow G ks lo hi ps ess→KRow G' ks lo hi ps (ess.map f)
 | [],_,_,_,_,h=>by obtain⟨p,e,rfl,rfl,h⟩:=h;exact⟨p,f e,rfl,rfl,hG _ _ _ _ h⟩
 | k::ks,_,_,_,_,h=>by
  obtain⟨p,ps',e,ess',rfl,rfl,h1,h2,h⟩:=h;exact⟨p,ps',f e,ess'.map f,rfl,rfl,hG _ _ _ _ h1,h2,KRow.map f hG h⟩
theorem KRow.all {P:β→Prop}(hG:∀lo hi p e,G lo hi p e→P e):∀{ks:List ByteArray} {lo hi:SB} {ps:List Nat} {ess:List β},KRow G ks lo hi ps ess→∀e∈ess,P e
 | [],_,_,_,_,h=>by
  obtain⟨p,e,rfl,rfl,h⟩:=h;intro x hx;rw[List.mem_singleton] at hx;rw[hx];exact hG _ _ _ _ h
 | k::ks,_,_,_,_,h=>by
  obtain⟨p,ps',e,ess',rfl,rfl,h1,h2,h⟩:=h;intro x hx
  rcases List.mem_cons.1 hx with hx|hx
  ·rw[hx];exact hG _ _ _ _ h1
  ·exact KRow.all hG h x hx
end
section
variable {G:SB→SB→Nat→List En→Prop}
theorem KRow.facts (hG:∀lo hi p e,G lo hi p e→ltO lo hi∧srt e∧∀x∈e,okE x∧ins lo hi x.k):∀{ks:List ByteArray} {lo hi:SB} {ps:List Nat} {ess:List (List En)},KRow G ks lo hi ps ess→
  ltO lo hi∧srt ess.flatten∧(∀x∈ess.flatten,okE x∧ins lo hi x.k)∧∀k∈ks,okK k=true
 | [],_,_,_,_,h=>by
  obtain⟨p,e,rfl,rfl,h⟩:=h;have:=hG _ _ _ _ h;refine⟨this.1,?_,?_,by simp⟩
  ·simpa using this.2.1
  ·simpa using this.2.2
 | k::ks,lo,hi,_,_,h=>by
  obtain⟨p,ps',e,ess',rfl,rfl,h1,h3,h⟩:=h;have a:=hG _ _ _ _ h1;have b:=KRow.facts hG h;refine⟨y4h a.1 b.1,?_,?_,?_⟩
  ·rw[List.flatten_cons];unfold srt;rw[List.pairwise_append];refine⟨a.2.1,b.2.1,fun x hx y hy=> ?_⟩;have h5:=(a.2.2 x hx).2.2;have h6:=(b.2.2.1 y hy).2.1;exact y4e h5 h6
  ·intro x hx;rw[List.flatten_cons,List.mem_append] at hx
   rcases hx with hx|hx
   ·exact⟨(a.2.2 x hx).1,y8r (a.2.2 x hx).2 b.1⟩
   ·exact⟨(b.2.2.1 x hx).1,y4i (b.2.2.1 x hx).2 a.1⟩
  ·intro x hx
   rcases List.mem_cons.1 hx with rfl|hx
   ·exact h3
   ·exact b.2.2.2 x hx
theorem KRow.count {m:Nat}(hG:∀lo hi p e,G lo hi p e→m≤e.length):∀{ks:List ByteArray} {lo hi:SB} {ps:List Nat} {ess:List (List En)},KRow G ks lo hi ps ess→m*(ks.length+1)≤ess.flatten.length
 | [],_,_,_,_,h=>by
  obtain⟨p,e,rfl,rfl,h⟩:=h;have:=hG _ _ _ _ h
  simpa using this
 | k::ks,lo,hi,_,_,h=>by
  obtain⟨p,ps',e,ess',rfl,rfl,h1,h3,h⟩:=h;have a:=hG _ _ _ _ h1;have b:=KRow.count hG h;rw[List.flatten_cons,zla,List.length_cons,Nat.mul_add,Nat.mul_one];omega
theorem KRow.keys (hG:∀lo hi p e,G lo hi p e→ltO lo hi∧srt e∧∀x∈e,okE x∧ins lo hi x.k){ks:List ByteArray}{lo hi:SB}{ps:List Nat}{ess:List (List En)}(h:KRow G ks lo hi ps ess):z3j ks:=fun i hi=>by
 have hk:=(h.split hi).2.1;refine⟨hk,?_⟩;unfold y0a
 by_cases h0:i=0
 ·rw[if_pos h0];exact y37 (z1a hk).1
 ·rw[if_neg h0];have h1:=(h.split (i:=i-1) (by omega)).2.2;rw[show i-1+1=i by omega,y2b ks i hi] at h1;obtain⟨p,ps',e,ess',_,_,h2,_,_⟩:=h1;exact(hG _ _ _ _ h2).1
theorem KRow.way (hG:∀lo hi p e,G lo hi p e→ltO lo hi∧srt e∧∀x∈e,okE x∧ins lo hi x.k){ks:List ByteArray}{lo hi:SB}{ps:List Nat}{ess:List (List En)}(h:KRow G ks lo hi ps ess){key:ByteArray}(hk:ins lo hi key):
  ins (lob lo ks (wayS ks key)) (hib hi ks (wayS ks key)) key∧(∀x∈(ess.take (wayS ks key)).flatten,blt x.k key=true)∧(∀x∈(ess.drop (wayS ks key+1)).flatten,blt key x.k=true):=by
 have hw:=z9c ks key;refine⟨⟨?_,?_⟩,?_,?_⟩
 ·unfold lob
  by_cases h0:wayS ks key=0
  ·rw[if_pos h0];exact hk.1
  ·rw[if_neg h0];exact y15 ks key _ (by omega)
 ·unfold hib
  by_cases h0:wayS ks key<ks.length
  ·rw[if_pos h0];exact y16 ks key h0
  ·rw[if_neg h0];exact hk.2
 ·intro x hx
  cases h0:wayS ks key with
  | zero=>rw[h0] at hx;simp at hx
  | succ i=>
   rw[h0] at hx;have h1:=(h.split (i:=i) (by omega)).1;have h2:=(h1.facts hG).2.2.1 x hx;have h3:blt key (sa ks i)=false:=y15 ks key i (by omega);exact y4e h2.2.2 h3
 ·intro x hx
  rcases Nat.lt_or_ge (wayS ks key) ks.length with h0|h0
  ·have h1:=(h.split h0).2.2;have h2:=(h1.facts hG).2.2.1 x hx;exact y4e (y16 ks key h0) h2.2.1
  ·rw[List.drop_of_length_le (by have:=h.len;omega)] at hx;simp at hx
end
inductive Tr where
 | leaf (pg:Nat) (cs:List En)
 | bran (pg:Nat) (ks:List ByteArray) (ts:List Tr)
def Tr.pg:Tr→Nat
 | .leaf pg _=>pg
 | .bran pg _ _=>pg
def Tr.sz:Tr→Nat
 | .leaf _ cs=>z0s cs
 | .bran _ ks _=>brSz ks
def Tr.kids:Tr→List Tr
 | .leaf _ _=> []
 | .bran _ _ ts=>ts
mutual
/-- All entries.-/
def Tr.es:Tr→List En
 | .leaf _ cs=>cs
 | .bran _ _ ts=>esL ts
def esL:List Tr→List En
 | []=> []
 | t::r=>t.es++esL r
end
mutual
/-- The pages of nodes.-/
def Tr.pgs:Tr→List Nat
 | .leaf pg _=>if pg=0 then [] else [pg]
 | .bran pg _ ts=>(if pg=0 then [] else [pg])++pgsL ts
def pgsL:List Tr→List Nat
 | []=> []
 | t::r=>t.pgs++pgsL r
end
mutual
/-- How many nodes lie nowhere.-/
def Tr.nw:Tr→Nat
 | .leaf pg _=>if pg=0 then 1 else 0
 | .bran pg _ ts=>(if pg=0 then 1 else 0)+nwL ts
def nwL:List Tr→Nat
 | []=>0
 | t::r=>t.nw+nwL r
end
mutual
/-- Of each node that lies somewhere.-/
def Tr.on (Q:Tr→Prop):Tr→Prop
 | .leaf pg cs=>pg≠0→Q (.leaf pg cs)
 | .bran pg ks ts=>(pg≠0→Q (.bran pg ks ts))∧onL Q ts
def onL (Q:Tr→Prop):List Tr→Prop
 | []=>True
 | t::r=>t.on Q∧onL Q r
end
theorem z2i:∀ts,esL ts=(ts.map Tr.es).flatten
 | []=>by simp[esL]
 | t::r=>by rw[esL,z2i r];simp
theorem z2x (a b:List Tr):esL (a++b)=esL a++esL b:=by rw[z2i,z2i,z2i,List.map_append,List.flatten_append]
theorem z1s (t:Tr):esL [t]=t.es:=by simp[esL]
theorem z6j:∀(a b:List Tr),pgsL (a++b)=pgsL a++pgsL b
 | [],b=>by simp[pgsL]
 | t::r,b=>by rw[List.cons_append,pgsL,pgsL,z6j r b,List.append_assoc]
theorem z9e:∀(a b:List Tr),nwL (a++b)=nwL a+nwL b
 | [],b=>by simp[nwL]
 | t::r,b=>by rw[List.cons_append,nwL,nwL,z9e r b];omega
theorem y2c {Q:Tr→Prop}:∀(a b:List Tr),onL Q (a++b)↔onL Q a∧onL Q b
 | [],b=>by simp[onL]
 | t::r,b=>by rw[List.cons_append,onL,onL,y2c r b,and_assoc]
theorem y2d {Q:Tr→Prop}(t:Tr):onL Q [t]↔t.on Q:=by simp[onL]
theorem Tr.pgs_eq (t:Tr):t.pgs=(if t.pg=0 then [] else [t.pg])++pgsL t.kids:=by
 cases t with
 | leaf pg cs=>rw[Tr.pgs,Tr.kids,pgsL,List.append_nil];rfl
 | bran pg ks ts=>rw[Tr.pgs];rfl
theorem Tr.nw_eq (t:Tr):t.nw=(if t.pg=0 then 1 else 0)+nwL t.kids:=by
 cases t with
 | leaf pg cs=>rw[Tr.nw,Tr.kids,nwL,Nat.add_zero];rfl
 | bran pg ks ts=>rw[Tr.nw];rfl
theorem Tr.on_kids {Q:Tr→Prop}(t:Tr)(h:t.on Q):onL Q t.kids:=by
 cases t with
 | leaf pg cs=>simp[Tr.kids,onL]
 | bran pg ks ts=>rw[Tr.on] at h;exact h.2
theorem Tr.on_new {Q:Tr→Prop}(t:Tr)(h:t.pg=0)(h2:onL Q t.kids):t.on Q:=by
 cases t with
 | leaf pg cs=>rw[Tr.on];intro h3;exact absurd h h3
 | bran pg ks ts=>rw[Tr.on];exact⟨fun h3=>absurd h h3,h2⟩
structure Fr (a b:List Tr) (n:Nat):Prop where
 pg:∀p,(pgsL b).count p≤(pgsL a).count p
 nw:nwL b≤nwL a+n
 on:∀Q,onL Q a→onL Q b
theorem Fr.refl (a:List Tr):Fr a a 0:=⟨fun _=>zlr _,zlr _,fun _ h=>h⟩
theorem Fr.trans {a b c:List Tr}{n m:Nat}(h:Fr a b n)(k:Fr b c m):Fr a c (n+m):=⟨fun p=>Nat.le_trans (k.pg p) (h.pg p),by have:=h.nw;have:=k.nw;omega,fun Q q=>k.on Q (h.on Q q)⟩
theorem Fr.mono {a b:List Tr}{n m:Nat}(h:Fr a b n)(hn:n≤m):Fr a b m:=⟨h.pg,by have:=h.nw;omega,h.on⟩
theorem Fr.app {a b a2 b2:List Tr}{n m:Nat}(h:Fr a b n)(k:Fr a2 b2 m):Fr (a++a2) (b++b2) (n+m):=
 ⟨fun p=>by rw[z6j,z6j,List.count_append,List.count_append];exact Nat.add_le_add (h.pg p) (k.pg p),by rw[z9e,z9e];have:=h.nw;have:=k.nw;omega,fun Q q=>by rw[y2c] at q⊢;exact⟨h.on Q q.1,k.on Q q.2⟩⟩
theorem Fr.kids (t:Tr):Fr [t] t.kids 0:=by
 refine⟨fun p=> ?_,?_,fun Q q=> ?_⟩
 ·rw[pgsL,pgsL,List.append_nil,Tr.pgs_eq,List.count_append];omega
 ·rw[nwL,nwL,Nat.add_zero,Tr.nw_eq];omega
 ·rw[y2d] at q;exact t.on_kids q
theorem Fr.new {a:List Tr}{t:Tr}{n:Nat}(h:Fr a t.kids n)(h0:t.pg=0):Fr a [t] (n+1):=by
 refine⟨fun p=> ?_,?_,fun Q q=> ?_⟩
 ·rw[pgsL,pgsL,List.append_nil,Tr.pgs_eq,if_pos h0,List.nil_append];exact h.pg p
 ·rw[nwL,nwL,Nat.add_zero,Tr.nw_eq,if_pos h0];have:=h.nw;omega
 ·rw[y2d];exact t.on_new h0 (h.on Q q)
theorem x3r {t:Tr}(h0:t.pg=0):t.nw=nwL t.kids+1:=by rw[Tr.nw_eq,if_pos h0];omega
def cutS (V:ByteArray)(k:Nat):ByteArray:=V.extract (502*k) (min (502*k+502) V.size)
def nP (n:Nat):Nat:=(n+501)/502
def pcT (V:ByteArray)(k:Nat):List ByteArray:=(List.range k).map (cutS V)
def chs (V:ByteArray):List ByteArray:=pcT V (nP V.size)
theorem y8s (V:ByteArray)(k:Nat):pcT V (k+1)=pcT V k++[cutS V k]:=by simp[pcT,List.range_succ]
theorem x3s (V:ByteArray)(k:Nat):(pcT V k).length=k:=by simp[pcT]
theorem q2b (V:ByteArray):(chs V).length=nP V.size:=x3s V _
theorem q4k (V:ByteArray)(k i:Nat)(h:i<k):sa (pcT V k) i=cutS V i:=by
 unfold sa pcT;simp[List.getD,h]
theorem y6o {n k:Nat}:k<nP n↔502*k<n:=by unfold nP;omega
theorem y8t (V:ByteArray)(k:Nat):(cutS V k).size=min (502*k+502) V.size-502*k:=by
 unfold cutS;rw[ByteArray.size_extract];omega
theorem y8u {V:ByteArray}{k:Nat}(h:k<nP V.size):1≤(cutS V k).size∧(cutS V k).size≤502:=by
 have:=y6o.1 h;rw[y8t];omega
def z9f (V:ByteArray)(k:Nat):ByteArray:=V.extract 0 (min (502*k) V.size)
theorem x3t (V:ByteArray):z9f V 0=ByteArray.empty:=by
 unfold z9f;rw[Nat.mul_zero,Nat.zero_min,ByteArray.extract_eq_empty_iff];omega
theorem x3u (V:ByteArray)(k:Nat)(h:502*k≤V.size):z9f V k++cutS V k=z9f V (k+1):=by
 unfold z9f cutS;rw[Nat.min_eq_left h,ByteArray.extract_append_extract]
 congr 1<;>omega
theorem x7t (V:ByteArray):z9f V (nP V.size)=V:=by
 unfold z9f;rw[Nat.min_eq_right (by unfold nP;omega)];exact ByteArray.extract_zero_size
def z6k (p:Int):Bool:=decide (p=0)||decide (2≤p)&&decide (p<1024)
def z6l (n:Int):Bool:=decide (1≤n)&&decide (n≤502)
def chOk (p:Int)(V:ByteArray):Bool:=z6k p&&z6l V.size
def chE (p:Int)(V:ByteArray):Int:=if chOk p V then 0 else 1
def chB (p:Int)(V:ByteArray):List Nat:=if chOk p V then beL p.toNat 2++bn V else []
def chP (l:List Nat):Nat:=numL (l.take 2)
def dcOk (l:List Nat):Bool:=z6l ((l.length:Int)-2)&&z6k (chP l)
def dcN (l:List Nat):Int:=if dcOk l then (chP l:Int) else 0
def dcV (l:List Nat):ByteArray:=if dcOk l then bstr (l.drop 2) else ByteArray.empty
def dcE (l:List Nat):Int:=if dcOk l then 0 else 3
def cntS (x:Int):Int:=if x<1 then 0 else (x-1)/502+1
theorem q4l (n:Nat):cntS n=(nP n:Int):=by
 unfold cntS nP
 rcases Nat.eq_zero_or_pos n with rfl|h
 ·rfl
 ·rw[if_neg (by omega)];omega
theorem q0c (p:Nat)(V:ByteArray):(beL p 2++bn V).length=V.size+2:=by
 rw[zla,z1b,z2h];omega
theorem x3v (p:Nat)(V:ByteArray)(hp:p<1024):chP (beL p 2++bn V)=p:=by
 unfold chP;rw[List.take_append_of_le_length (by rw[z1b];omega),List.take_of_length_le (by rw[z1b];omega),y75,Nat.mod_eq_of_lt (by omega)]
theorem q2c (p:Nat)(V:ByteArray):(beL p 2++bn V).drop 2=bn V:=by
 rw[List.drop_append_of_le_length (by rw[z1b];omega),List.drop_of_length_le (by rw[z1b];omega)];rfl
theorem q2d (p:Nat)(V:ByteArray)(h:chOk p V=true):dcN (beL p 2++bn V)=p∧dcV (beL p 2++bn V)=V∧dcE (beL p 2++bn V)=0:=by
 have hp:p<1024:=by
  unfold chOk z6k at h;simp at h;omega
 have ho:dcOk (beL p 2++bn V)=true:=by
  unfold dcOk;rw[x3v p V hp,q0c];unfold chOk at h;rw[show(((V.size+2:Nat):Int)-2)=(V.size:Int) by omega,Bool.and_comm];exact h
 unfold dcN dcV dcE;rw[ho,x3v p V hp,q2c,z85];exact⟨rfl,rfl,rfl⟩
theorem q4m {l:List Nat}(h:B8 l):chP l<65536:=by
 have h1:=y1p (h.take 2);rw[zlk] at h1;have h2:min 2 l.length=0∨min 2 l.length=1∨min 2 l.length=2:=by omega
 unfold chP
 rcases h2 with e|e|e<;>rw[e] at h1<;>omega
end Go.Proofs.YtdnfhjfbanhhcaaGreatDoor
namespace Go.Proofs.YtdnfhjfbanhhcaaGreatDoor
open Go.RowKit
structure RO where
 l:List En
 u:Nat→Bool
 d:Int
def z1f (u:Nat→Bool):Nat→Nat
 | 0=>0
 | n+1=>z1f u n+if u n then 0 else 1
def uput (u:Nat→Bool)(i:Nat):Nat→Bool:=fun j=>if j=i then true else u j
theorem x3w (u:Nat→Bool)(i:Nat)(hu:u i=false):∀n,i<n→z1f (uput u i) n+1=z1f u n:=by
 have same:∀n,n≤i→z1f (uput u i) n=z1f u n:=by
  intro n
  induction n with
  | zero=>intro _;rfl
  | succ n ih=>
   intro h;show z1f (uput u i) n+(if uput u i n then 0 else 1)=z1f u n+if u n then 0 else 1
   rw[ih (by omega)];have:uput u i n=u n:=by unfold uput;rw[if_neg (by omega)]
   rw[this]
 intro n
 induction n with
 | zero=>intro h;omega
 | succ n ih=>
  intro h;show z1f (uput u i) n+(if uput u i n then 0 else 1)+1=z1f u n+if u n then 0 else 1
  by_cases hn:n=i
  ·subst hn;rw[same n (zlr _)];have:uput u n n=true:=by unfold uput;rw[if_pos rfl]
   rw[this,hu];simp
  ·have:uput u i n=u n:=by unfold uput;rw[if_neg hn]
   rw[this];have:=ih (by omega);omega
theorem y2e (u:Nat→Bool):∀n,z1f u n≤n
 | 0=>zlr _
 | n+1=>by
  have:=y2e u n;show z1f u n+_≤n+1;split<;>omega
section
variable (P:List (List Nat))
def z3k (o:RO)(i:Int):Option (RO×Nat×List Nat):=
 if i<2∨(P.length:Int)≤i∨o.u i.toNat=true then none
 else if (opS (P.getD i.toNat [])).2.2=0 then some (⟨o.l,uput o.u i.toNat,o.d⟩,(opS (P.getD i.toNat [])).1,(opS (P.getD i.toNat [])).2.1) else none
def y8v (k:Nat)(b:List Nat)(s:ByteArray)(long:Int):Prop:=k≠3∨dcE b≠0∨long<(s++dcV b).size∨(dcN b≠0∧(dcV b).size<502)
instance (k:Nat) (b:List Nat) (s:ByteArray) (long:Int):Decidable (y8v k b s long):=by unfold y8v;infer_instance
def z7e (s:Sp)(ks:List ByteArray)(i:Nat):Sp:=
 ⟨if 0<i then sa ks (i-1) else s.lo,if i<ks.length then sa ks i else s.hi,if i<ks.length then false else s.op⟩
theorem z2o {o o1:RO}{i:Int}{k:Nat}{b:List Nat}(h:z3k P o i=some (o1,k,b)):
  2≤i∧i<P.length∧o.u i.toNat=false∧(opS (P.getD i.toNat [])).2.2=0∧o1=⟨o.l,uput o.u i.toNat,o.d⟩∧k=(opS (P.getD i.toNat [])).1∧b=(opS (P.getD i.toNat [])).2.1:=by
 unfold z3k at h;split at h
 ·cases h
 ·rename_i h1
  split at h
  ·rename_i h2
   simp only[Option.some.injEq,Prod.mk.injEq] at h;obtain⟨rfl,rfl,rfl⟩:=h;refine⟨by omega,by omega,?_,h2,rfl,rfl,rfl⟩
   cases hu:o.u i.toNat with
   | false=>rfl
   | true=>exact absurd (.inr (.inr hu)) h1
  ·cases h
theorem z45 {o o1:RO}{i:Int}{k:Nat}{b:List Nat}(h:z3k P o i=some (o1,k,b)):z1f o1.u P.length+1=z1f o.u P.length∧o1.l=o.l∧o1.d=o.d:=by
 obtain⟨h1,h2,h3,_,rfl,_⟩:=z2o P h;exact⟨x3w o.u i.toNat h3 P.length (by omega),rfl,rfl⟩
theorem y0t:∀(n:Nat) (l:List Nat) (cs:List Ce) (r:List Nat),decN n l=some (cs,r)→cs.length=n
 | 0,l,cs,r,h=>by unfold decN at h;cases h;rfl
 | n+1,l,cs,r,h=>by
  unfold decN at h;split at h
  ·cases h
  ·rename_i cs1 r1 h1
   have h2:=y0t n l cs1 r1 h1;split at h
   ·cases h
   ·split at h
    ·cases h;rw[zla,h2];rfl
    ·cases h
theorem y2f {l:List Nat}{cs:List Ce}(h:decS l=some cs):cs.length≤504:=by
 unfold decS at h;split at h
 ·cases h
 ·split at h
  ·cases h
  ·split at h
   ·cases h
   ·rename_i cs1 r h1
    split at h
    ·cases h
     rw[y0t _ _ _ _ h1];exact z80 _ _
    ·cases h
end
end Go.Proofs.YtdnfhjfbanhhcaaGreatDoor
