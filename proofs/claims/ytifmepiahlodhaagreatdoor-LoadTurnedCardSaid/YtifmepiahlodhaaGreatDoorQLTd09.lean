/-
  Steps.
-/
import Derived.Test.YtifmepiahlodhaaGreatDoorQLTd07
namespace Go.Proofs.YtifmepiahlodhaaGreatDoor
open Go Go.RowKit
def z99 (ks:List ByteArray)(k:Nat):ByteArray:=if k=0 then ByteArray.empty else sa ks (k-1)
def y0o (ks:List ByteArray)(k:Nat):Prop:=∀i,i<k→okK (sa ks i)=true∧blt (z99 ks i) (sa ks i)=true
def z5l (is:List Int)(i:Nat):Prop:=∀j,j<i→ia is j≠ia is i
def z63 (is:List Int)(k:Nat):Prop:=∀i,i<k→(2≤ia is i∧ia is i≤1023)∧z5l is i
def z3j (ks:List ByteArray):Prop:=y0o ks ks.length
def z85 (is:List Int):Prop:=z63 is is.length
def mayF (ks:List ByteArray)(is:List Int):Prop:=z3j ks∧z85 is∧1≤ks.length∧is.length=ks.length+1
theorem z1a {k:ByteArray}(h:okK k=true):1≤k.size∧k.size≤40:=by
 unfold okK at h;simp at h;exact h
theorem y34 {k:ByteArray}(h:1≤k.size):blt ByteArray.empty k=true:=by
 rw[z4g];have e:=y6g k;show[]<bl k
 cases h2:bl k with
 | nil=>rw[h2] at e;simp at e;omega
 | cons x r=>exact List.nil_lt_cons x r
theorem y6k {ks:List ByteArray}{k:Nat}(h:y0o ks k)(h1:okK (sa ks k)=true)(h2:blt (z99 ks k) (sa ks k)=true):y0o ks (k+1):=fun i hi=>by
 rcases zng i k with h3|h3
 ·exact h i h3
 ·obtain rfl:i=k:=by omega
  exact⟨h1,h2⟩
theorem y35 {is:List Int}{k:Nat}(h:z63 is k)(h1:2≤ia is k∧ia is k≤1023)(h2:z5l is k):z63 is (k+1):=fun i hi=>by
 rcases zng i k with h3|h3
 ·exact h i h3
 ·obtain rfl:i=k:=by omega
  exact⟨h1,h2⟩
theorem x7t {ks:List ByteArray}{k:Nat}(hk:k<ks.length)(h:okK (sa ks k)=false∨blt (z99 ks k) (sa ks k)=false):¬z3j ks:=fun ha=>by
 have:=ha k hk
 rcases h with h|h
 ·rw[h] at this;cases this.1
 ·rw[h] at this;cases this.2
theorem x3f {is:List Int}{k:Nat}(hk:k<is.length)(h:¬(2≤ia is k∧ia is k≤1023)∨¬z5l is k):¬z85 is:=fun ha=>by
 have:=ha k hk
 rcases h with h|h
 ·exact h this.1
 ·exact h this.2
theorem x0p (ks:List ByteArray)(k:Nat):z99 ks (k+1)=sa ks k:=by
 unfold z99;rw[if_neg (by omega),Nat.add_sub_cancel]
theorem x7u {ks:List ByteArray}(h:z3j ks)(i:Nat)(h0:0<i)(hi:i<ks.length):blt (sa ks (i-1)) (sa ks i)=true:=by
 have:=(h i hi).2;unfold z99 at this;rwa [if_neg (by omega)] at this
theorem x3g {ks:List ByteArray}(h:z3j ks):∀(j i:Nat),i<j→j<ks.length→blt (sa ks i) (sa ks j)=true
 | 0,i,h1,_=>by omega
 | j+1,i,h1,hj=>by
  have h2:=x7u h (j+1) (by omega) hj;rw[Nat.add_sub_cancel] at h2
  rcases zng i j with h3|h3
  ·exact z3q (x3g h j i h3 (by omega)) h2
  ·obtain rfl:i=j:=by omega
   exact h2
def twoP (p:Int):List Nat:=[p.toNat/256%256,p.toNat%256]
def pcF (k:ByteArray)(p:Int):List Nat:=vb k.size++(bn k++twoP p)
def putF (ks:List ByteArray)(is:List Int):Nat→List Nat
 | 0=>twoP (ia is 0)
 | k+1=>putF ks is k++pcF (sa ks k) (ia is (k+1))
def z2p (ks:List ByteArray)(is:List Int):List Nat:=putF ks is ks.length
theorem x3h (p:Int):B8 (twoP p):=fun x hx=>by
 unfold twoP at hx;simp at hx;omega
theorem q4o (k:ByteArray)(p:Int):B8 (pcF k p):=(x7e _).append ((x7i _).append (x3h p))
theorem x3i (ks:List ByteArray)(is:List Int):∀k,B8 (putF ks is k)
 | 0=>x3h _
 | k+1=>(x3i ks is k).append (q4o _ _)
theorem q14 (k:ByteArray)(p:Int)(h:k.size≤127):(pcF k p).length=3+k.size:=by
 have e:(vb k.size).length=1:=z1j (by omega);unfold pcF;rw[zla,zla,z2h,e];show 1+(k.size+2)=_;omega
def z1c (ks:List ByteArray):Nat→Nat
 | 0=>2
 | k+1=>z1c ks k+(3+(sa ks k).size)
theorem y1x {ks:List ByteArray}{is:List Int}(h:∀i,i<ks.length→(sa ks i).size≤127):∀k,k≤ks.length→(putF ks is k).length=z1c ks k
 | 0,_=>rfl
 | k+1,hk=>by
  rw[putF,zla,y1x h k (by omega),q14 _ _ (h k (by omega)),z1c]
theorem y0p {ks:List ByteArray}(h:z3j ks):∀i,i<ks.length→(sa ks i).size≤127:=fun i hi=>by
 have:=z1a (h i hi).1;omega
theorem y1y {ks:List ByteArray}{is:List Int}(h:z3j ks):(z2p ks is).length=z1c ks ks.length:=y1x (y0p h) _ (zlr _)
theorem y36 {ks:List ByteArray}(h:z3j ks):∀k,k≤ks.length→z1c ks k≤2+43*k
 | 0,_=>by rw[z1c];omega
 | k+1,hk=>by
  have:=z1a (h k (by omega)).1;have:=y36 h k (by omega);rw[z1c];omega
theorem z86 (ks:List ByteArray):∀(m k:Nat),k≤m→z1c ks k≤z1c ks m
 | 0,k,h=>by
  obtain rfl:k=0:=by omega
  exact zlr _
 | m+1,k,h=>by
  rcases zng k (m+1) with h1|h1
  ·have:=z86 ks m k (by omega);show _≤z1c ks m+_;omega
  ·obtain rfl:k=m+1:=by omega
   exact zlr _
open Classical in
/-- Encode's error and its bytes.-/
noncomputable def z64 (ks:List ByteArray) (is:List Int):Nat:=if mayF ks is then (if (z2p ks is).length≤504 then 0 else 5) else 1
noncomputable def y1z (ks:List ByteArray) (is:List Int):List Nat:=if z64 ks is=0 then z2p ks is else []
theorem q4p {ks:List ByteArray}{is:List Int}(h:¬mayF ks is):z64 ks is=1∧y1z ks is=[]:=by
 have:z64 ks is=1:=by unfold z64;rw[if_neg h]
 exact⟨this,by unfold y1z;rw[this];rfl⟩
theorem q4q {ks:List ByteArray}{is:List Int}(h:mayF ks is)(h3:504<(z2p ks is).length):z64 ks is=5∧y1z ks is=[]:=by
 have:z64 ks is=5:=by unfold z64;rw[if_pos h,if_neg (by omega)]
 exact⟨this,by unfold y1z;rw[this];rfl⟩
theorem q0g {ks:List ByteArray}{is:List Int}(h:mayF ks is)(h3:(z2p ks is).length≤504):z64 ks is=0∧y1z ks is=z2p ks is:=by
 have:z64 ks is=0:=by unfold z64;rw[if_pos h,if_pos h3]
 exact⟨this,by unfold y1z;rw[this];rfl⟩
def z2t (l:List Nat):Option (ByteArray×Int×List Nat):=
 let B:=z0g ⟨l,false⟩ 40
 if B.2.wr=true then none
 else if B.2.l.length<2 then none else some (bstr B.1,((B.2.l.getD 0 0*256+B.2.l.getD 1 0:Nat):Int),B.2.l.drop 2)
theorem y10 {l:List Nat}(h:(z0g ⟨l,false⟩ 40).2.wr=true):z2t l=none:=by unfold z2t;simp only;rw[if_pos h]
theorem z5m {l:List Nat}(h:(z0g ⟨l,false⟩ 40).2.l.length<2):z2t l=none:=by
 unfold z2t;simp only
 by_cases hw:(z0g ⟨l,false⟩ 40).2.wr=true
 ·rw[if_pos hw]
 ·rw[if_neg hw,if_pos h]
theorem z57 {l:List Nat}(h:(z0g ⟨l,false⟩ 40).2.wr=false)(h2:2≤(z0g ⟨l,false⟩ 40).2.l.length):
  z2t l=some (bstr (z0g ⟨l,false⟩ 40).1,(((z0g ⟨l,false⟩ 40).2.l.getD 0 0*256+(z0g ⟨l,false⟩ 40).2.l.getD 1 0:Nat):Int),(z0g ⟨l,false⟩ 40).2.l.drop 2):=by
 unfold z2t;simp only;rw[if_neg (by rw[h];simp),if_neg (by omega)]
theorem z87 {S:RS}{m:Nat}(h:(z0g S m).2.wr=false):(z0g S m).2.l.length<S.l.length:=by
 obtain⟨h1,h2,e⟩:=y30 h;obtain⟨e2,h3,_⟩:=y6b h1;have hl:=y8h S.l h3;rw[e];show(List.drop _ _).length<_;rw[zld,e2];show(List.drop _ _).length-_<_;rw[zld];omega
theorem y11 {l r:List Nat}{k:ByteArray}{p:Int}(h:z2t l=some (k,p,r)):r.length+2<l.length:=by
 cases hw:(z0g ⟨l,false⟩ 40).2.wr with
 | true=>rw[y10 hw] at h;cases h
 | false=>
  rcases Nat.lt_or_ge (z0g ⟨l,false⟩ 40).2.l.length 2 with h2|h2
  ·rw[z5m h2] at h;cases h
  ·rw[z57 hw h2] at h
   cases h
   have:=z87 hw;rw[zld];show _<l.length;have h3:(z0g ⟨l,false⟩ 40).2.l.length<l.length:=this;omega
theorem x3j {l r:List Nat}{k:ByteArray}{p:Int}(x:List Nat)(h:z2t l=some (k,p,r)):z2t (l++x)=some (k,p,r++x):=by
 cases hw:(z0g ⟨l,false⟩ 40).2.wr with
 | true=>rw[y10 hw] at h;cases h
 | false=>
  rcases Nat.lt_or_ge (z0g ⟨l,false⟩ 40).2.l.length 2 with h2|h2
  ·rw[z5m h2] at h;cases h
  ·rw[z57 hw h2] at h;have e1:=x0n x false hw;simp only at e1;rw[z57 (by rw[e1]) (by rw[e1];show 2≤(_++x).length;rw[zla];omega),e1];simp only
   cases h
   rw[List.drop_append_of_le_length h2,y8n _ _ _ (by omega),y8n _ _ _ (by omega)]
theorem x3k {k:ByteArray}{p:Int}(hk:okK k=true)(hp:2≤p∧p≤1023)(r:List Nat):z2t (pcF k p++r)=some (k,p,r):=by
 have h1:=z1a hk;have e:pcF k p++r=vb (bn k).length++(bn k++(twoP p++r)):=by
  unfold pcF;rw[z2h];simp only[List.append_assoc]
 have e1:=y0l (bn k) (twoP p++r) false 40 (by rw[z2h];omega) (by rw[z2h];omega);rw[e,z57 (by rw[e1]) (by rw[e1];show 2≤(twoP p++r).length;rw[zla];show 2≤2+_;omega),e1];simp only;have e3:((twoP p++r).getD 0 0*256+(twoP p++r).getD 1 0:Nat)=p.toNat:=by
  show p.toNat/256%256*256+p.toNat%256=_;omega
 have e4:((p.toNat:Nat):Int)=p:=by omega
 rw[e3,e4,z82]
 rfl
def decF:Nat→List Nat→Option (List ByteArray×List Int)
 | 0,l=>if l=[] then some ([],[]) else none
 | f+1,l=>if l=[] then some ([],[]) else match z2t l with
  | none=>none
  | some (k,p,r)=>(decF f r).map fun x=>(k::x.1,p::x.2)
theorem z8e (f:Nat):decF f []=some ([],[]):=by cases f<;>rfl
theorem y37:∀(f g:Nat) (l:List Nat),l.length≤f→l.length≤g→decF f l=decF g l
 | 0,g,l,hf,_=>by
  obtain rfl:l=[]:=List.eq_nil_of_length_eq_zero (by omega);rw[z8e,z8e]
 | f+1,0,l,_,hg=>by
  obtain rfl:l=[]:=List.eq_nil_of_length_eq_zero (by omega);rw[z8e,z8e]
 | f+1,g+1,l,hf,hg=>by
  rw[decF,decF];split
  ·rfl
  ·cases h:z2t l with
   | none=>rfl
   | some x=>
    obtain⟨k,p,r⟩:=x;have:=y11 h;simp only;rw[y37 f g r (by omega) (by omega)]
def decR (l:List Nat):Option (List ByteArray×List Int):=decF l.length l
theorem z8f:decR []=some ([],[]):=rfl
theorem z88 {l:List Nat}(h0:l≠[])(h:z2t l=none):decR l=none:=by
 unfold decR
 cases hl:l.length with
 | zero=>exact absurd (List.eq_nil_of_length_eq_zero hl) h0
 | succ f=>rw[decF,if_neg h0,h]
theorem z58 {l r:List Nat}{k:ByteArray}{p:Int}(h:z2t l=some (k,p,r)):decR l=(decR r).map fun x=>(k::x.1,p::x.2):=by
 have hlt:=y11 h;unfold decR
 cases hl:l.length with
 | zero=>omega
 | succ f=>
  have h0:l≠[]:=fun e=>by rw[e] at hl;cases hl
  rw[decF,if_neg h0,h];simp only;rw[y37 f r.length r (by omega) (zlr _)]
theorem x7v (n:Nat):∀(l m:List Nat) (x:List ByteArray×List Int),l.length≤n→decR l=some x→decR (l++m)=(decR m).map fun y=>(x.1++y.1,x.2++y.2):=by
 induction n with
 | zero=>
  intro l m x hl h;obtain rfl:l=[]:=List.eq_nil_of_length_eq_zero (by omega);rw[z8f] at h
  cases h
  rw[List.nil_append]
  cases decR m<;>rfl
 | succ n ih=>
  intro l m x hl h
  by_cases h0:l=[]
  ·subst h0;rw[z8f] at h
   cases h
   rw[List.nil_append]
   cases decR m<;>rfl
  ·cases hp:z2t l with
   | none=>rw[z88 h0 hp] at h;cases h
   | some y=>
    obtain⟨k,p,r⟩:=y;have hlt:=y11 hp;rw[z58 hp] at h
    cases hr:decR r with
    | none=>rw[hr] at h;cases h
    | some z=>
     rw[hr] at h
     cases h
     rw[z58 (x3j m hp),ih r m z (by omega) hr]
     cases decR m<;>rfl
def z7u (l:List Nat):Int:=((l.getD 0 0*256+l.getD 1 0:Nat):Int)
open Classical in
/-- Decode's fork,if the bytes are a load.-/
noncomputable def z22 (l:List Nat):Option (List ByteArray×List Int):=
 if 504<l.length∨l.length<2 then none else match decR (l.drop 2) with
  | none=>none
  | some (ks,ps)=>if mayF ks (z7u l::ps) then some (ks,z7u l::ps) else none
theorem y38 {l:List Nat}(h:504<l.length∨l.length<2):z22 l=none:=by unfold z22;rw[if_pos h]
theorem y0q {l:List Nat}(h:decR (l.drop 2)=none):z22 l=none:=by
 unfold z22;rw[h];split<;>rfl
theorem x3l {l:List Nat}{ks:List ByteArray}{ps:List Int}(h:decR (l.drop 2)=some (ks,ps))(hm:¬mayF ks (z7u l::ps)):z22 l=none:=by
 unfold z22;rw[h];simp only;rw[if_neg hm];split<;>rfl
theorem y0r {l:List Nat}{ks:List ByteArray}{ps:List Int}(h1:l.length≤504)(h2:2≤l.length)(h:decR (l.drop 2)=some (ks,ps))(hm:mayF ks (z7u l::ps)):z22 l=some (ks,z7u l::ps):=by
 unfold z22;rw[if_neg (by omega),h];simp only;rw[if_pos hm]
noncomputable def y6l (l:List Nat):List ByteArray:=match z22 l with
 | none=> []
 | some x=>x.1
noncomputable def y6m (l:List Nat):List Int:=match z22 l with
 | none=> []
 | some x=>x.2
noncomputable def x0q (l:List Nat):Nat:=match z22 l with
 | none=>3
 | some _=>0
theorem y12 {l:List Nat}(h:z22 l=none):y6l l=[]∧y6m l=[]∧x0q l=3:=by unfold y6l y6m x0q;rw[h];exact⟨rfl,rfl,rfl⟩
theorem y8r {l:List Nat}{ks:List ByteArray}{is:List Int}(h:z22 l=some (ks,is)):y6l l=ks∧y6m l=is∧x0q l=0:=by unfold y6l y6m x0q;rw[h];exact⟨rfl,rfl,rfl⟩
theorem y13 (ks:List ByteArray)(is:List Int):∀k,∃m,putF ks is k=twoP (ia is 0)++m
 | 0=>⟨[],by rw[List.append_nil];rfl⟩
 | k+1=>by
  obtain⟨m,hm⟩:=y13 ks is k;exact⟨m++pcF (sa ks k) (ia is (k+1)),by rw[putF,hm,List.append_assoc]⟩
theorem x3m {p:Int}(h:2≤p∧p≤1023)(m:List Nat):z7u (twoP p++m)=p:=by
 show((p.toNat/256%256*256+p.toNat%256:Nat):Int)=p;omega
theorem y39 {l m:List Nat}(h:2≤l.length):(l++m).drop 2=l.drop 2++m:=List.drop_append_of_le_length h
theorem y8s {ks:List ByteArray}{is:List Int}(h:mayF ks is):∀k,k≤ks.length→decR ((putF ks is k).drop 2)=some (ks.take k,(is.drop 1).take k)
 | 0,_=>rfl
 | k+1,hk=>by
  obtain⟨hK,hP,h1,hl⟩:=h;have ih:=y8s ⟨hK,hP,h1,hl⟩ k (by omega);obtain⟨m,hm⟩:=y13 ks is k;have e:=x3k (hK k (by omega)).1 (hP (k+1) (by omega)).1 [];rw[List.append_nil] at e;have e2:=z58 e;rw[z8f] at e2;rw[putF,y39 (by rw[hm,zla];show 2≤2+_;omega),x7v _ _ _ _ (zlr _) ih,e2];have e3:(is.drop 1).take (k+1)=(is.drop 1).take k++[ia is (k+1)]:=by
   rw[List.take_succ_eq_append_getElem (by rw[zld];omega)];simp only[List.getElem_drop,ia,List.getD];rw[List.getElem?_eq_getElem (by omega)];simp[Nat.add_comm]
  rw[y6c ks k (by omega),e3]
  rfl
theorem q15 {is:List Int}(h:1≤is.length):ia is 0::is.drop 1=is:=by
 cases is with
 | nil=>simp at h
 | cons x r=>rfl
theorem x0r {ks:List ByteArray}{is:List Int}(h:mayF ks is)(hl:(z2p ks is).length≤504):z22 (z2p ks is)=some (ks,is):=by
 have e:=y8s h ks.length (zlr _);have h4:=h.2.2.2;rw[List.take_of_length_le (zlr _),List.take_of_length_le (by rw[zld];omega)] at e;obtain⟨m,hm⟩:=y13 ks is ks.length;have hf:z7u (z2p ks is)=ia is 0:=by unfold z2p;rw[hm];exact x3m (h.2.1 0 (by omega)).1 m
 have h2:2≤(z2p ks is).length:=by unfold z2p;rw[hm,zla];show 2≤2+_;omega
 have hc:=q15 (is:=is) (by omega);have:=y0r hl h2 e (by rw[hf,hc];exact h);rw[hf,hc] at this;exact this
def wayS:List ByteArray→ByteArray→Nat
 | [],_=>0
 | c::r,key=>if blt key c=true then 0 else wayS r key+1
theorem z89:∀(cs:List ByteArray) (key:ByteArray),wayS cs key≤cs.length
 | [],_=>zlr _
 | c::r,key=>by
  have:=z89 r key;unfold wayS;split
  ·exact Nat.zero_le _
  ·rw[List.length_cons];omega
theorem y14:∀(cs:List ByteArray) (key:ByteArray) (i:Nat),i<wayS cs key→blt key (sa cs i)=false
 | [],_,i,h=>by simp[wayS] at h
 | c::r,key,i,h=>by
  unfold wayS at h;split at h
  ·omega
  ·rename_i h1
   cases i with
   | zero=>show blt key c=false;simpa using h1
   | succ i=>exact y14 r key i (by omega)
theorem y15:∀(cs:List ByteArray) (key:ByteArray),wayS cs key<cs.length→blt key (sa cs (wayS cs key))=true
 | [],_,h=>by simp at h
 | c::r,key,h=>by
  unfold wayS at h⊢
  split
  ·rename_i h1
   exact h1
  ·rename_i h1
   rw[if_neg h1,List.length_cons] at h;exact y15 r key (by omega)
theorem q16 {cs:List ByteArray}(ha:z3j cs)(key:ByteArray)(i:Nat)(hi:wayS cs key≤i)(hl:i<cs.length):blt key (sa cs i)=true:=by
 have h1:=y15 cs key (by omega)
 rcases Nat.lt_or_ge (wayS cs key) i with h2|h2
 ·exact z3q h1 (x3g ha i _ h2 hl)
 ·obtain rfl:i=wayS cs key:=by omega
  exact h1
end Go.Proofs.YtifmepiahlodhaaGreatDoor
