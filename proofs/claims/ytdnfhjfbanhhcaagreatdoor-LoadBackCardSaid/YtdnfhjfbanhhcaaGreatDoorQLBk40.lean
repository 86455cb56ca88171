/-
  Steps.
-/
import Derived.Test.YtdnfhjfbanhhcaaGreatDoorQLBk37
namespace Go.Proofs.YtdnfhjfbanhhcaaGreatDoor
open Go Go.RowKit
theorem y9v:∀(es:List En),(∀e∈es,64<e.v.size→e.ch≠[])→cNs es=0
 | [],_=>rfl
 | e::r,h=>by
  have h1:z3s e=false:=by
   unfold z3s
   rcases zng 64 e.v.size with h2|h2
   ·have h3:=h e (by simp) h2;have h4:decide (e.ch.length=0)=false:=zdf (fun h4=>h3 (List.eq_nil_of_length_eq_zero h4));rw[h4,Bool.and_false]
   ·have h4:decide (64<e.v.size)=false:=zdf (by omega);rw[h4,Bool.false_and]
  have h2:cN e=0:=by unfold cN;rw[h1];rfl
  rw[cNs,h2,y9v r (fun x hx=>h x (by simp[hx]))]
theorem x54:∀(es:List En),(∀e∈es,e.v.size≤502)→cNs es≤es.length
 | [],_=>by simp[cNs]
 | e::r,h=>by
  have h1:=h e (by simp);have h2:=x54 r (fun x hx=>h x (by simp[hx]));have h3:cN e≤1:=by
   unfold cN nP;split<;>omega
  rw[cNs,List.length_cons];omega
mutual
theorem x9i:∀(t:Tr),t.need≤t.nw+cNs t.es
 | .leaf pg cs=>by
  rw[Tr.need,Tr.nw,Tr.es]
  by_cases h:pg=0
  ·rw[if_pos h,if_pos h];omega
  ·rw[if_neg h];omega
 | .bran pg ks ts=>by
  have:=z5c ts;rw[Tr.need,Tr.nw,Tr.es]
  by_cases h:pg=0
  ·rw[if_pos h,if_pos h];omega
  ·rw[if_neg h];omega
theorem z5c:∀(ts:List Tr),z0f ts≤nwL ts+cNs (esL ts)
 | []=>by simp[z0f]
 | t::r=>by
  have h1:=x9i t;have h2:=z5c r;rw[z0f,nwL,esL,z39];omega
end
theorem x55:∀(ts:List Tr),(∀t∈ts,t.nw+1≤2*t.es.length)→nwL ts+ts.length≤2*(esL ts).length
 | [],_=>by simp[nwL,esL]
 | t::r,h=>by
  have h1:=h t (by simp);have h2:=x55 r (fun x hx=>h x (by simp[hx]));rw[nwL,esL,List.length_cons,zla];omega
theorem q0t:∀(h:Nat) {lo hi:SB} {t:Tr},TOk h lo hi t→(0<h→3≤t.sz)→(h=0→t.es≠[])→t.nw+1≤2*t.es.length
 | 0,_,_,_,⟨pg,es,h0,_⟩,_,hne=>by
  subst h0;have h1:=hne rfl;rw[Tr.es] at h1⊢
  have:0<es.length:=List.length_pos_iff.2 h1;rw[Tr.nw];split<;>omega
 | h+1,lo,hi,_,⟨pg,ks,ps,ts,h0,hr⟩,hz,_=>by
  subst h0;have hz:=hz (by omega);have hlen:=hr.len;have hk:1≤ks.length:=by
   simp only[Tr.sz] at hz
   cases ks with
   | nil=>unfold brSz kss at hz;simp at hz
   | cons x r=>simp
  have h1:=x55 ts (hr.all (P:=fun t=>t.nw+1≤2*t.es.length) (fun lo hi p t ⟨g1,g2,g3⟩=>q0t h g1 (fun _=>by omega) (fun e hn=>by
   subst e;obtain⟨pg,es,rfl,_⟩:=g1;rw[Tr.es] at hn;subst hn
   revert g2
   simp only[Tr.sz]
   decide)))
  rw[Tr.nw,Tr.es];split<;>omega
theorem y29 (p:Nat):∀(ws:List PgW) (P:List (List Nat)),p∉ws.map Prod.fst→(layP P ws).getD p []=P.getD p []
 | [],_,_=>rfl
 | x::r,P,h=>by
  rw[List.map_cons,List.mem_cons,not_or] at h;rw[layP,y29 p r _ h.2,List.getD_eq_getElem?_getD,List.getElem?_set_ne (Ne.symm h.1),←List.getD_eq_getElem?_getD]
theorem y3a:∀(ws:List PgW) (P:List (List Nat)),(ws.map Prod.fst).Nodup→(∀x∈ws,x.1<P.length)→∀x∈ws,(layP P ws).getD x.1 []=x.2
 | y::r,P,hn,hl,x,hx=>by
  rw[List.map_cons,List.nodup_cons] at hn;rw[layP]
  rcases List.mem_cons.1 hx with rfl|hx
  ·rw[y29 _ r _ hn.1,List.getD_eq_getElem?_getD,List.getElem?_set_self (hl _ (by simp))];rfl
  ·exact y3a r _ hn.2 (fun z hz=>by rw[List.length_set];exact hl z (by simp[hz])) x hx
theorem y7t (f:Nat→Bool)(x:Nat):∀k,x∈els f k↔x<k∧f x=true
 | 0=>by simp[els]
 | k+1=>by
  rw[els,List.mem_append,y7t f x k];constructor
  ·rintro(h|h)
   ·exact⟨by omega,h.2⟩
   ·split at h
    ·rename_i hf
     rw[List.mem_singleton] at h;subst h;exact⟨by omega,hf⟩
    ·cases h
  ·rintro⟨h1,h2⟩
   by_cases h3:x=k
   ·subst h3;exact .inr (by rw[if_pos h2];simp)
   ·exact .inl ⟨by omega,h2⟩
theorem y51 (f:Nat→Bool):∀k,(els f k).Nodup
 | 0=>by simp[els]
 | k+1=>by
  rw[els,List.nodup_append];refine⟨y51 f k,by split<;>simp,fun x hx y hy=> ?_⟩;have:=((y7t f x k).1 hx).1;split at hy
  ·rw[List.mem_singleton] at hy;omega
  ·cases hy
def z1j (f:Nat→Bool)(ts:List Tr)(m:Nat):Bool:=f m&& !(decide (m<2)||addR (fun _=>false) (uL ts) m)
def takP (f:Nat→Bool)(ts:List Tr):List Nat:=(els (z1j f ts) 1024).take (z0f ts)
section
variable {f:Nat→Bool} {ts:List Tr} (hc:z0f ts≤cnt (z1j f ts) 1024)
theorem z4a (hc:z0f ts≤cnt (z1j f ts) 1024):(takP f ts).length=z0f ts:=by
 unfold takP;rw[zlk,z65];omega
theorem z1y {x:Nat}(h:x∈takP f ts):f x=true∧2≤x∧x<1024∧x∉uL ts:=by
 obtain⟨h1,h2⟩:=(y7t _ _ _).1 (List.mem_of_mem_take h);unfold z1j addR at h2;simp only[Bool.and_eq_true,Bool.not_eq_true',Bool.or_eq_false_iff,decide_eq_false_iff_not,Bool.false_or] at h2;exact⟨h2.1,by omega,h1,h2.2.2⟩
theorem z7s:(takP f ts).Nodup:=(y51 _ _).sublist (List.take_sublist _ _)
end
section
variable (P:Nat→List Nat)
structure MixI (ts:List Tr):Prop where
 on:onL (QH P) ts
 ce:∀e∈esL ts,CeO P e
 rg:∀p∈uL ts,2≤p∧p<1024
 one:∀p,cUL p ts≤1
structure LieI (ts:List Tr):Prop where
 on:onL (QH P) ts
 pg:∀t∈ts,t.pg≠0
 ce:∀e∈esL ts,CeL P e
 rg:∀p∈uL ts,2≤p∧p<1024
 one:∀p,cUL p ts≤1
variable {P}
theorem LieI.mix {ts:List Tr}(h:LieI P ts):MixI P ts:=⟨h.on,fun e he=>(h.ce e he).o,h.rg,h.one⟩
theorem y3b {p:Nat}:∀{es:List En} {e:En},e∈es→p∈e.ch→p∈chL es
 | x::r,e,he,hp=>by
  rw[chL,List.mem_append]
  rcases List.mem_cons.1 he with rfl|he
  ·exact .inl hp
  ·exact .inr (y3b he hp)
theorem y52 {P P':Nat→List Nat}{v:ByteArray}{ch:List Nat}(h:ChH P v ch)(hp:∀p∈ch,P' p=P p):ChH P' v ch:=
 ⟨h.1,fun i hi=>by rw[hp _ (z4f hi)];exact h.2 i hi⟩
theorem x56 {P P':Nat→List Nat}{e:En}(h:CeO P e)(hp:∀p∈e.ch,P' p=P p):CeO P' e:=by
 rcases h with h|h
 ·exact .inl h
 ·exact .inr ⟨h.1,y52 h.2 hp⟩
theorem x57 {P P':Nat→List Nat}{e:En}(h:CeL P e)(hp:∀p∈e.ch,P' p=P p):CeL P' e:=by
 rcases h with h|h
 ·exact .inl h
 ·exact .inr ⟨h.1,y52 h.2 hp⟩
mutual
theorem x9j {P P':Nat→List Nat}:∀(t:Tr),t.on (QH P)→(∀p∈t.pgs,P' p=P p)→t.on (QH P')
 | .leaf pg cs,h,hp=>by
  rw[Tr.on] at h⊢
  intro h0;have h1:=h h0;exact⟨by rw[hp pg (by rw[Tr.pgs,if_neg h0];simp)];exact h1.1,h1.2⟩
 | .bran pg ks ts,h,hp=>by
  rw[Tr.on] at h⊢
  refine⟨fun h0=> ?_,z62 ts h.2 (fun p hq=>hp p (by rw[Tr.pgs,List.mem_append];exact .inr hq))⟩;have h1:=h.1 h0;exact⟨by rw[hp pg (by rw[Tr.pgs,if_neg h0];simp)];exact h1.1,h1.2⟩
theorem z62 {P P':Nat→List Nat}:∀(ts:List Tr),onL (QH P) ts→(∀p∈pgsL ts,P' p=P p)→onL (QH P') ts
 | [],_,_=>by rw[onL];trivial
 | t::r,h,hp=>by
  rw[onL] at h⊢
  exact⟨x9j t h.1 (fun p hq=>hp p (by rw[pgsL,List.mem_append];exact .inl hq)),z62 r h.2 (fun p hq=>hp p (by rw[pgsL,List.mem_append];exact .inr hq))⟩
end
theorem MixI.congr {P P':Nat→List Nat}{ts:List Tr}(h:MixI P ts)(hp:∀p∈uL ts,P' p=P p):MixI P' ts:=
 ⟨z62 ts h.on (fun p hq=>hp p (by unfold uL;simp[hq])),fun e he=>x56 (h.ce e he) (fun p hq=>hp p (by unfold uL;simp[y3b he hq])),h.rg,h.one⟩
theorem LieI.congr {P P':Nat→List Nat}{ts:List Tr}(h:LieI P ts)(hp:∀p∈uL ts,P' p=P p):LieI P' ts:=
 ⟨z62 ts h.on (fun p hq=>hp p (by unfold uL;simp[hq])),h.pg,fun e he=>x57 (h.ce e he) (fun p hq=>hp p (by unfold uL;simp[y3b he hq])),h.rg,h.one⟩
theorem MixI.cev {ts:List Tr}(h:MixI P ts){e:En}(he:e∈esL ts)(hv:e.v.size≤2048):CeV e∧e.ch.length≤100000:=by
 have h1:=h.ce e he;refine⟨⟨?_,fun p hp=>h.rg p (by unfold uL;simp[y3b he hp])⟩,?_⟩
 ·rcases h1 with h1|h1
  ·exact .inl h1
  ·exact .inr h1.1
 ·rcases h1 with h1|h1
  ·rw[h1];simp
  ·rw[h1.2.1];unfold nP;omega
theorem y3c (p:Nat)(es:List En)(a b:Nat)(hab:a≤b):(chL (es.take a)).count p+(chL (es.drop b)).count p≤(chL es).count p:=by
 have h1:es.drop a=(es.drop a).take (b-a)++es.drop b:=by
  have h2:=(List.take_append_drop (b-a) (es.drop a)).symm;rw[List.drop_drop,show a+(b-a)=b by omega] at h2;exact h2
 have h2:=congrArg (fun l=>(chL l).count p) (List.take_append_drop a es);have h3:=congrArg (fun l=>(chL l).count p) h1;simp only[z7h,List.count_append] at h2 h3;omega
theorem x58 (p:Nat)(es:List En)(key:ByteArray)(o:List En)(ho:chL o=[]):(chL (rep es key o)).count p≤(chL es).count p:=by
 unfold rep;rw[z7h,z7h,ho,List.nil_append,List.count_append];exact y3c p es _ _ (Nat.le_add_right _ _)
theorem MixI.chg {ts ts':List Tr}{n:Nat}{key:ByteArray}{o:List En}(h:MixI P ts)(he:esL ts'=rep (esL ts) key o)(hf:Fr ts ts' n)(ho:∀e∈o,e.ch=[]):MixI P ts':=by
 have hco:chL o=[]:=by
  have:∀l:List En,(∀e∈l,e.ch=[])→chL l=[]:=fun l=>by
   induction l with
   | nil=>intro _;rfl
   | cons x r ih=>intro h;rw[chL,h x (by simp),ih (fun e he=>h e (by simp[he]))];rfl
  exact this o ho
 have hle:∀p,cUL p ts'≤cUL p ts:=fun p=>by
  have h1:=hf.pg p;have h2:=x58 p (esL ts) key o hco;unfold cUL;rw[he];omega
 refine⟨hf.on _ h.on,fun e hm=> ?_,fun p hp=> ?_,fun p=>Nat.le_trans (hle p) (h.one p)⟩
 ·rw[he] at hm
  rcases x3j hm with hm|hm
  ·exact h.ce e hm
  ·exact .inl (ho e hm)
 ·rw[z23] at hp;exact h.rg p ((z23 p ts).2 (Nat.lt_of_lt_of_le hp (hle p)))
theorem MixI.put {ts ts':List Tr}{H:Nat}{key v:ByteArray}(h:MixI P ts)(hf:z5z ts ts' H key v):MixI P ts':=by
 rcases hf with ⟨h1,h2⟩|⟨rfl,_⟩
 ·exact h.chg h1 h2 (fun e he=>by rw[List.mem_singleton.1 he])
 ·exact h
mutual
theorem q3i {Q:Tr→Prop}:∀(t:Tr),t.pgs=[]→t.on Q
 | .leaf pg cs,h=>by
  rw[Tr.on];intro h0;rw[Tr.pgs,if_neg h0] at h
  cases h
 | .bran pg ks ts,h=>by
  rw[Tr.pgs,List.append_eq_nil_iff] at h;rw[Tr.on];refine⟨fun h0=> ?_,y3d ts h.2⟩;have h1:=h.1;rw[if_neg h0] at h1
  cases h1
theorem y3d {Q:Tr→Prop}:∀(ts:List Tr),pgsL ts=[]→onL Q ts
 | [],_=>by rw[onL];trivial
 | t::r,h=>by
  rw[pgsL,List.append_eq_nil_iff] at h;rw[onL];exact⟨q3i t h.1,y3d r h.2⟩
end
theorem x59 {ts:List Tr}(h1:∀e∈esL ts,e.ch=[])(h2:∀q,(pgsL ts).count q=0):uL ts=[]:=by
 have hc:chL (esL ts)=[]:=by
  have:∀l:List En,(∀e∈l,e.ch=[])→chL l=[]:=fun l=>by
   induction l with
   | nil=>intro _;rfl
   | cons x r ih=>intro h;rw[chL,h x (by simp),ih (fun e he=>h e (by simp[he]))];rfl
  exact this _ h1
 unfold uL;rw[hc,List.append_nil]
 cases hp:pgsL ts with
 | nil=>rfl
 | cons x r=>
  have:=h2 x;rw[hp] at this;simp at this
theorem MixI.new {ts:List Tr}(h1:∀e∈esL ts,e.ch=[])(h2:∀q,(pgsL ts).count q=0):MixI P ts:=by
 have hu:=x59 h1 h2;have hpg:pgsL ts=[]:=by
  unfold uL at hu;exact(List.append_eq_nil_iff.1 hu).1
 refine⟨y3d ts hpg,fun e he=> .inl (h1 e he),fun p hp=> ?_,fun p=> ?_⟩
 ·rw[hu] at hp;cases hp
 ·rw[←y5f,hu];simp
mutual
theorem on_nw:∀(t:Tr),t.on (QH P)→t.pg≠0→t.nw=0
 | .leaf pg cs,_,h=>by
  have h':pg≠0:=h;rw[Tr.nw,if_neg h']
 | .bran pg ks ts,ho,h=>by
  have h':pg≠0:=h;rw[Tr.on] at ho;rw[Tr.nw,if_neg h',x6a ts ho.2 (ho.1 h').2]
theorem x6a:∀(ts:List Tr),onL (QH P) ts→(∀t∈ts,t.pg≠0)→nwL ts=0
 | [],_,_=>rfl
 | t::r,ho,h=>by
  rw[onL] at ho;rw[nwL,on_nw t ho.1 (h t (by simp)),x6a r ho.2 (fun x hx=>h x (by simp[hx]))]
end
theorem LieI.nw {ts:List Tr}(h:LieI P ts):nwL ts=0:=x6a ts h.on h.pg
theorem LieI.cn {ts:List Tr}(h:LieI P ts):cNs (esL ts)=0:=y9v _ (fun e he h1 h2=>by
 rcases h.ce e he with h3|h3
 ·omega
 ·have:=h3.2.1;rw[h2] at this;have h4:0<nP e.v.size:=by unfold nP;omega
  simp at this;omega)
theorem LieI.need {ts:List Tr}(h:LieI P ts):z0f ts=0:=by
 have h1:=z5c ts;rw[h.nw,h.cn] at h1;omega
section
variable {f:Nat→Bool} {ts:List Tr}
theorem y3e (hc:z0f ts≤cnt (z1j f ts) 1024)(p:Nat):cUL p (layL ts (takP f ts))=cUL p ts+(takP f ts).count p:=by
 have h1:=y2i p ts (takP f ts) (by rw[z4a hc];exact zlr _) (fun x hx=>by have:=(z1y hx).2.1;omega);rw[h1,List.take_of_length_le (by rw[z4a hc];exact zlr _)]
theorem z5d (hc:z0f ts≤cnt (z1j f ts) 1024):(wrL ts (takP f ts)).map Prod.fst=takP f ts:=by
 rw[y6s ts _ (by rw[z4a hc];exact zlr _),List.take_of_length_le (by rw[z4a hc];exact zlr _)]
theorem x6b (hc:z0f ts≤cnt (z1j f ts) 1024)(p:Nat):p∈uL (layL ts (takP f ts))↔p∈uL ts∨p∈takP f ts:=by
 rw[z23,z23,y3e hc,←List.count_pos_iff];omega
theorem x9k (p:Nat):(takP f ts).count p≤1:=List.nodup_iff_count.1 z7s p
theorem x6c (hc:z0f ts≤cnt (z1j f ts) 1024)(ho:∀p,cUL p ts≤1)(p:Nat):cUL p (layL ts (takP f ts))≤1:=by
 rw[y3e hc]
 by_cases hp:p∈takP f ts
 ·have h1:=(z1y hp).2.2.2;rw[z23] at h1;have:=x9k (f:=f) (ts:=ts) p;omega
 ·have h1:(takP f ts).count p=0:=List.count_eq_zero.2 hp;have:=ho p;omega
theorem q0u (hc:z0f ts≤cnt (z1j f ts) 1024)(hr:∀p∈uL ts,2≤p∧p<1024)(p:Nat)(hp:p∈uL (layL ts (takP f ts))):2≤p∧p<1024:=by
 rcases (x6b hc p).1 hp with hp|hp
 ·exact hr p hp
 ·have:=z1y hp;exact⟨this.2.1,this.2.2.1⟩
theorem MixI.lay {P':Nat→List Nat}(h:MixI P ts)(hc:z0f ts≤cnt (z1j f ts) 1024)(hw:∀x∈wrL ts (takP f ts),P' x.1=x.2)(ho:∀p∈uL ts,P' p=P p):LieI P' (layL ts (takP f ts)):=by
 have h':=h.congr ho;obtain⟨h1,h2,h3⟩:=z9l P' ts (takP f ts) (by rw[z4a hc];exact zlr _) (fun x hx=>by have:=(z1y hx).2.1;omega) hw h'.on h'.ce;exact⟨h1,h2,h3,q0u hc h.rg,x6c hc h.one⟩
theorem x9l (hc:z0f ts≤cnt (z1j f ts) 1024):(uL (layL ts (takP f ts))).length=(uL ts).length+z0f ts:=by
 have h:(uL (layL ts (takP f ts))).Perm (uL ts++takP f ts):=List.perm_iff_count.2 (fun p=>by
  rw[y5f,y3e hc,List.count_append,y5f])
 rw[h.length_eq,zla,z4a hc]
end
theorem x6d (g:Nat→Bool)(x:Nat)(hx:g x=false):∀k,cnt (fun m=>g m||decide (m=x)) k=cnt g k+(if x<k then 1 else 0)
 | 0=>by simp[cnt]
 | k+1=>by
  rw[cnt,cnt,x6d g x hx k]
  rcases Nat.lt_trichotomy x k with h|h|h
  ·rw[if_pos h,if_pos (by omega),show decide (k=x)=false from zdf (by omega),Bool.or_false];omega
  ·subst h;rw[if_neg (Nat.lt_irrefl _),if_pos (by omega),hx];simp
  ·rw[if_neg (by omega),if_neg (by omega),show decide (k=x)=false from zdf (by omega),Bool.or_false,Nat.add_zero,Nat.add_zero]
theorem y9w:∀(l:List Nat),l.Nodup→(∀x∈l,x<1024)→cnt (addR (fun _=>false) l) 1024=l.length
 | [],_,_=>by
  rw[y25,z2w (g:=fun m=>decide (m<0)) (fun m _=>by simp),z3l];rfl
 | x::r,hn,hl=>by
  rw[List.nodup_cons] at hn;have e1:addR (fun _=>false) (x::r)=fun m=>addR (fun _=>false) r m||decide (m=x):=by
   funext m
   unfold addR
   by_cases h1:m=x
   ·simp[h1]
   ·simp[h1]
  have e2:addR (fun _=>false) r x=false:=by unfold addR;simp[hn.1]
  rw[e1,x6d _ x e2,y9w r hn.2 (fun y hy=>hl y (by simp[hy])),if_pos (hl x (by simp))]
  rfl
theorem x9m {ts:List Tr}(hr:∀p∈uL ts,2≤p∧p<1024)(ho:∀p,cUL p ts≤1):cnt (addR (fun _=>false) (uL ts)) 1024=(uL ts).length:=
 y9w _ (List.nodup_iff_count.2 (fun p=>by rw[y5f];exact ho p)) (fun x hx=>(hr x hx).2)
theorem y7u:∀(h:Nat) {lo hi:SB} {t:Tr},TOk h lo hi t→(0<h→3≤t.sz)→(h=0→t.es≠[])→2^h≤t.es.length
 | 0,_,_,_,_,_,hne=>by
  have:=hne rfl;have:0<_:=List.length_pos_iff.2 this;rw[Nat.pow_zero];exact this
 | h+1,lo,hi,_,⟨pg,ks,ps,ts,h0,hr⟩,hz,_=>by
  subst h0;have hz:=hz (by omega);have hk:1≤ks.length:=by
   simp only[Tr.sz] at hz
   cases ks with
   | nil=>unfold brSz kss at hz;simp at hz
   | cons x r=>simp
  have h1:=(hr.map (G':=fun _ _ _ e=>2^h≤e.length) Tr.es (fun lo hi p t ⟨g1,g2,g3⟩=>y7u h g1 (fun _=>by omega) (fun e hn=>by
   subst e;obtain⟨pg,es,rfl,_⟩:=g1;rw[Tr.es] at hn;subst hn
   revert g2
   simp only[Tr.sz]
   decide))).count (m:=2^h) (fun _ _ _ _ h=>h)
  rw[Tr.es,z2i,Nat.pow_succ];exact Nat.le_trans (Nat.mul_le_mul_left _ (by omega)) h1
abbrev pgF (PL:List (List Nat))(p:Nat):List Nat:=PL.getD p []
end
end Go.Proofs.YtdnfhjfbanhhcaaGreatDoor
namespace Go.Proofs.YtdnfhjfbanhhcaaGreatDoor
open Go.RowKit
section
variable (PL:List (List Nat))
theorem q5h {v:ByteArray}{ch:List Nat}(hc:ChH (pgF PL) v ch)(hr:∀p∈ch,2≤p∧p<1024∧p<PL.length)(h1:∀p,ch.count p≤1):
  ∀(f i:Nat) (o:RO) (ps:List Nat),i≤ch.length→ch.length-i≤f→(∀p∈ch.drop i,o.u p=false)→
  ∃o1,ldV PL f o (z9f v i) ps ((na ch i:Nat):Int) ((v.size:Nat):Int)=some (o1,v,ps++ch.drop i):=by
 obtain⟨hn,hcc⟩:=hc;have hend:∀(f i:Nat) (o:RO) (ps:List Nat),i=ch.length→∃o1,ldV PL f o (z9f v i) ps ((na ch i:Nat):Int) ((v.size:Nat):Int)=some (o1,v,ps++ch.drop i):=fun f i o ps hin=>by
  have hz:na ch i=0:=y6u (by omega);refine⟨o,?_⟩;rw[hin] at hz⊢
  rw[hz,hn,x7t,←hn,List.drop_length,List.append_nil]
  cases f<;>(unfold ldV;rw[if_neg (by omega),if_pos (show((0:Nat):Int)=0 from rfl)])
 intro f
 induction f with
 | zero=>exact fun i o ps hi hf _=>hend 0 i o ps (by omega)
 | succ f ih=>
  intro i o ps hi hf hu
  rcases zng i ch.length with h|h
  ·have hm:=hr _ (z4f h);have hd:ch.drop i=na ch i::ch.drop (i+1):=by
    rw[List.drop_eq_getElem_cons h];simp[na,List.getD,h]
   have hi2:i<nP v.size:=by omega
   have hcut:=y8u hi2;have hi3:=y6o.1 hi2;have hnx:na ch (i+1)<1024∧(na ch (i+1)=0∨2≤na ch (i+1)):=by
    rcases Nat.lt_or_ge (i+1) ch.length with h3|h3
    ·have:=hr _ (z4f h3);exact⟨this.2.1,.inr this.1⟩
    ·rw[y6u h3];exact⟨by omega,.inl rfl⟩
   have hok:chOk ((na ch (i+1):Nat):Int) (cutS v i)=true:=by
    unfold chOk z6k z6l;rw[Bool.and_eq_true,Bool.and_eq_true,Bool.or_eq_true,Bool.and_eq_true];simp only[decide_eq_true_iff];omega
   obtain⟨b1,b2,b3⟩:=q2d (na ch (i+1)) (cutS v i) hok;have hu0:o.u (na ch i)=false:=hu _ (by rw[hd];simp);have hop:=z9t PL (o:=o) (p:=na ch i) (k:=3) (l:=beL (na ch (i+1)) 2++bn (cutS v i)) (hcc i h) (by omega) (by omega) (by rw[q0c];omega) hm.1 hm.2.2 hu0;have hne:∀p∈ch.drop (i+1),p≠na ch i:=fun p hp he=>by
    have h4:=h1 (na ch i);have e5:ch.count (na ch i)=(ch.take i).count (na ch i)+(ch.drop i).count (na ch i):=by rw[←List.count_append,List.take_append_drop]
    rw[hd,List.count_cons_self] at e5;have h6:0<(ch.drop (i+1)).count (na ch i):=List.count_pos_iff.2 (he▸hp);omega
   obtain⟨o1,g1⟩:=ih (i+1) ⟨o.l,uput o.u (na ch i),o.d⟩ (ps++[na ch i]) (by omega) (by omega) (fun p hp=>by
    show uput o.u (na ch i) p=false;unfold uput;rw[if_neg (hne p hp)];exact hu p (by rw[hd];exact List.mem_cons_of_mem _ hp))
   have hhs:(z9f v i).size=502*i:=by unfold z9f;rw[ByteArray.size_extract];omega
   refine⟨o1,?_⟩;unfold ldV;rw[if_pos (by omega),hop];simp only;rw[b1,b2,b3,if_pos ⟨trivial,rfl,by rw[y8t,hhs];omega⟩,x3u v i (by omega),hd];rw[List.append_assoc] at g1;exact g1
  ·exact hend (f+1) i o ps (by omega)
theorem x6e (s:Sp)(f:Nat)(hf:5≤f):
  ∀(es:List En) (o:RO),(∀e∈es,okE e∧CeL (pgF PL) e∧(∀p∈e.ch,2≤p∧p<1024∧p<PL.length)∧hasS s e.k=true)→(∀p,(chL es).count p≤1)→(∀p∈chL es,o.u p=false)→
  ∃o1,ldC PL f s (es.map cE) o=some (o1,es)
 | [],o,_,_,_=>⟨o,rfl⟩
 | e::r,o,hk,h1,hu=>by
  obtain⟨k1,k2,k3,k4⟩:=hk e (by simp);have hval:∃o2,ldE PL f (cE e) o=some (o2,e.v,e.ch):=by
   unfold ldE
   rcases k2 with ⟨h2,h3⟩|⟨h2,h3⟩
   ·refine⟨o,?_⟩;rw[cE_n,if_neg (by omega),h3];unfold cE;rw[if_neg (by omega)]
   ·have hsz:=k1.2;have hl5:e.ch.length≤5:=by rw[h3.1];unfold nP;omega
    obtain⟨o2,g1⟩:=q5h PL h3 k3 (fun p=>by have:=h1 p;rw[chL,List.count_append] at this;omega) f 0 o [] (by omega) (by omega) (fun p hp=>hu p (by rw[chL];exact List.mem_append_left _ hp));refine⟨o2,?_⟩;rw[cE_n,if_pos (by omega)];rw[x3t] at g1;have e1:(cE e).p=((na e.ch 0:Nat):Int):=by unfold cE;rw[if_pos h2]
    rw[e1];exact g1
  obtain⟨o2,v1⟩:=hval;obtain⟨v4,_⟩:=z9u PL v1 (y88 k1 k2 (fun p hp=>⟨(k3 p hp).1,(k3 p hp).2.1⟩));have hdis:∀p,p∈chL r→¬0<e.ch.count p:=fun p hp he=>by
   have:=h1 p;rw[chL,List.count_append] at this;have a:=List.count_pos_iff.2 hp;omega
  obtain⟨o3,g1⟩:=x6e s f hf r ⟨o2.l++[⟨(cE e).k,e.v,[]⟩],o2.u,o2.d⟩ (fun x hx=>hk x (by simp[hx])) (fun p=>by have:=h1 p;rw[chL,List.count_append] at this;omega) (fun p hp=>by
   show o2.u p=false;rw[v4.1 p,hu p (by rw[chL];exact List.mem_append_right _ hp)];simp only[Bool.false_or,decide_eq_false_iff_not];exact hdis p hp)
  refine⟨o3,?_⟩;rw[List.map_cons];unfold ldC;rw[v1];simp only;rw[g1,cE_k,if_pos k4]
structure RdL (o:RO) (t:Tr):Prop where
 on:t.on (QH (pgF PL))
 pg:t.pg≠0
 ce:∀e∈t.es,CeL (pgF PL) e
 rg:∀p∈uT t,2≤p∧p<1024∧p<PL.length
 one:∀p,cU p t≤1
 fr:∀p∈uT t,o.u p=false
theorem x6f {h f:Nat}{ks:List ByteArray}{lo hi:SB}{ps:List Nat}{ts:List Tr}{s:Sp}{deep:Int}(hr:KRow (TGd h) ks lo hi ps ts)(hs:SpB s lo hi)(hd:1≤deep)
  (ih:∀(lo hi:SB) (t:Tr) (o:RO) (s:Sp) (deep:Int),TOk h lo hi t→t.sz≤504→126≤t.sz→RdL PL o t→SpB s lo hi→1≤deep→0≤o.d→(o.d=0∨o.d=deep+h)→∃o1,ldN PL f o ((t.pg:Nat):Int) s deep=some (o1,t)∧o1.d=deep+h)
  (hon:onL (QH (pgF PL)) ts) (hpg:∀t∈ts,t.pg≠0) (hce:∀e∈esL ts,CeL (pgF PL) e) (hrg:∀p∈uL ts,2≤p∧p<1024∧p<PL.length) (hone:∀p,cUL p ts≤1):
  ∀(t:Nat) (o:RO),t≤ts.length→(∀p∈uL (ts.drop (ts.length-t)),o.u p=false)→0≤o.d→(o.d=0∨o.d=deep+1+h)→
  ∃o1,ldK (ldN PL f) ks (ts.map pgI) s deep t o=some (o1,ts.drop (ts.length-t))∧(t=0→o1.d=o.d)∧(0<t→o1.d=deep+1+h)
 | 0,o,_,_,_,_=>⟨o,by unfold ldK;rw[Nat.sub_zero,List.drop_length],fun _=>rfl,fun h=>by omega⟩
 | t+1,o,ht,hu,h0,hod=>by
  have hlen:=hr.len;obtain⟨i,hix⟩:∃i,ts.length-(t+1)=i:=⟨_,rfl⟩
  have hit:ts.length-t=i+1:=by omega
  have hil:i<ts.length:=by omega
  rw[hix] at hu⊢
  obtain⟨u,hu0⟩:∃u,ta ts i=u:=⟨_,rfl⟩
  have hdrop:ts.drop i=u::ts.drop (i+1):=by rw[←hu0];exact y2t hil
  have hkid:TGd h (lob lo ks i) (hib hi ks i) (na ps i) u:=by rw[←hu0];exact hr.kid (d:=default) (by omega)
  have hmem:u∈ts:=by
   have:u∈ts.drop i:=by rw[hdrop];simp
   exact List.mem_of_mem_drop this
  have hsplit:∀p,cUL p ts=cUL p (ts.take i)+(cU p u+cUL p (ts.drop (i+1))):=fun p=>by
   rw[←z2r,←hdrop,←x4c,List.take_append_drop]
  have hmu:∀p,p∈uT u→p∈uL ts:=fun p hp=>by
   rw[q0k] at hp;rw[z23,hsplit p];omega
  have hes:∀e,e∈u.es→e∈esL ts:=fun e he=>by
   have e1:esL ts=esL (ts.take i)++(u.es++esL (ts.drop (i+1))):=by rw[←esL,←hdrop,←z2x,List.take_append_drop]
   rw[e1];simp[he]
  have hI:RdL PL o u:=⟨x4f hon u hmem,hpg u hmem,fun e he=>hce e (hes e he),fun p hp=>hrg p (hmu p hp),fun p=>by have:=hone p;rw[hsplit p] at this;omega,fun p hp=>hu p (by rw[hdrop,z5y];exact .inl hp)⟩
  obtain⟨o1,n1,n3⟩:=ih _ _ u o (z7e s ks i) (deep+1) hkid.1 hkid.2.2 hkid.2.1 hI (hs.part ks i) (by omega) h0 hod;obtain⟨_,hF,_⟩:=z6u PL f o _ _ (deep+1) o1 u h0 (by omega) n1;have hdis:∀p,p∈uL (ts.drop (i+1))→¬0<cU p u:=fun p hp he=>by
   have:=hone p;rw[hsplit p] at this;rw[z23] at hp;omega
  obtain⟨o2,m1,m3,m4⟩:=x6f hr hs hd ih hon hpg hce hrg hone t o1 (by omega) (fun p hp=>by
   rw[hit] at hp;rw[hF.op.1 p,hu p (by rw[hdrop,z5y];exact .inr hp)];simp only[Bool.false_or,decide_eq_false_iff_not];exact hdis p hp) (by omega) (.inr (by rw[n3]))
  rw[hit] at m1;refine⟨o2,?_,fun h=>by omega,fun _=> ?_⟩
  ·unfold ldK;rw[List.length_map,hix];have hia:ia (ts.map pgI) i=((u.pg:Nat):Int):=by
    rw[y7f ts i hil];have:ts.getD i (.leaf 0 [])=u:=hu0;rw[this]
   have hkey:¬(i<ks.length∧hasS (lowS s ks i) (sa ks i)=false):=by
    rintro⟨h0,h1⟩;have h2:=hr.split (i:=i) h0;have a:=(TOk.facts h hkid.1).1;have b:=(TGd.row h2.2.2).facts (fun _ _ _ _ h=>h);have e1:hib hi ks i=some (sa ks i):=by unfold hib;rw[if_pos h0]
    rw[e1] at a;have h3:ins (lob lo ks i) hi (sa ks i):=by
     refine⟨?_,?_⟩
     ·cases h5:lob lo ks i with
      | none=>trivial
      | some x=>rw[h5] at a;exact z44 a
     ·cases hi with
      | none=>trivial
      | some x=>exact b.1
    have hsl:SpB (lowS s ks i) (lob lo ks i) hi:=by
     refine⟨?_,hs.2⟩;unfold lowS lob
     by_cases h5:i=0
     ·subst h5;exact hs.1
     ·rw[if_neg h5];simp only;rw[if_pos (by omega)]
    rw[hsl.has h3] at h1
    cases h1
   rw[if_neg hkey,hia,n1];simp only;rw[if_neg (by have:=hkid.2.1;omega),m1,hdrop]
  ·rcases Nat.eq_zero_or_pos t with h0|h0
   ·rw[m3 h0,n3]
   ·exact m4 h0
theorem x6g:
  ∀(h f:Nat) (lo hi:SB) (t:Tr) (o:RO) (s:Sp) (deep:Int),TOk h lo hi t→t.sz≤504→(1<deep→126≤t.sz)→(0<h→3≤t.sz)→(h=0→t.es≠[])→RdL PL o t→SpB s lo hi→h+6≤f→1≤deep→0≤o.d→(o.d=0∨o.d=deep+h)→∃o1,ldN PL f o ((t.pg:Nat):Int) s deep=some (o1,t)∧o1.d=deep+h
 | 0,f,lo,hi,t,o,s,deep,hk,hz,hz2,_,hne,hI,hs,hf,hd,h0,hod=>by
  obtain⟨pg,es,rfl,hlt,hsr,hok⟩:=hk;obtain⟨g,rfl⟩:∃g,f=g+1:=⟨f-1,by omega⟩
  have hne:=hne rfl;have hq:=hI.on;have hpg:=hI.pg;have hce:=hI.ce;rw[Tr.on] at hq;simp only[Tr.es] at hne hce;have hq0:=(hq hpg).1;have hp0:=hI.rg pg (q44 (.leaf pg es) hpg);have huE:∀p,p∈uT (.leaf pg es)↔p=pg∨p∈chL es:=fun p=>by
   unfold uT;have hpg':¬pg=0:=hpg;rw[Tr.pgs,Tr.es,if_neg hpg'];simp
  have hrg:∀p∈chL es,2≤p∧p<1024∧p<PL.length:=fun p hp=>hI.rg p ((huE p).2 (.inr hp))
  have hone:∀p,[pg].count p+(chL es).count p≤1:=fun p=>by
   have:=hI.one p;have hpg':¬pg=0:=hpg;rw[y2h,if_neg hpg'] at this;exact this
  have hchm:∀(es:List En) e,e∈es→∀p∈e.ch,p∈chL es:=by
   intro es
   induction es with
   | nil=>intro e he;cases he
   | cons a r ih=>
    intro e he p hp;rw[chL,List.mem_append]
    rcases List.mem_cons.1 he with rfl|he
    ·exact .inl hp
    ·exact .inr (ih e he p hp)
  have hall:∀e∈es,okE e∧CeL (pgF PL) e∧∀p∈e.ch,2≤p∧p<1024∧p<PL.length:=fun e he=>⟨(hok e he).1,hce e he,fun p hp=>hrg p (hchm es e he p hp)⟩
  have hall':∀e∈es,okE e∧CeL (pgF PL) e∧∀p∈e.ch,2≤p∧p<1024:=fun e he=>⟨(hall e he).1,(hall e he).2.1,fun p hp=>⟨((hall e he).2.2 p hp).1,((hall e he).2.2 p hp).2.1⟩⟩
  have hll:=y5d es hall';simp only[Tr.sz] at hz hz2;have hop:=z9t PL (o:=o) (p:=pg) (k:=1) (l:=z10 (es.map cE)) hq0 (by omega) (by omega) (by rw[hll];exact hz) hp0.1 hp0.2.2 (hI.fr pg ((huE pg).2 (.inl rfl)));have hdec:=x22 (x8u hall') (y9a hsr) (by rw[hll];exact hz);have hnin:∀p∈chL es,p≠pg:=fun p hp he=>by
   have:=hone p;rw[he] at this hp;have e2:([pg]:List Nat).count pg=1:=List.count_singleton_self;rw[e2] at this;have:=List.count_pos_iff.2 hp;omega
  obtain⟨o1,g1⟩:=x6e PL s g (by omega) es ⟨o.l,uput o.u pg,deep⟩ (fun e he=>⟨(hall e he).1,(hall e he).2.1,(hall e he).2.2,hs.has (hok e he).2⟩) (fun p=>by have:=hone p;omega) (fun p hp=>by
   show uput o.u pg p=false;unfold uput;rw[if_neg (hnin p hp)];exact hI.fr p ((huE p).2 (.inr hp)))
  have hd1:=(z4x PL g s (es.map cE) _ o1 es g1 (fun c hc=>by
   obtain⟨e,he,rfl⟩:=List.mem_map.1 hc;exact y88 (hall' e he).1 (hall' e he).2.1 (hall' e he).2.2)).2.2.2.1
  refine⟨o1,?_,by rw[hd1];simp⟩;unfold ldN;have e0:(Tr.leaf pg es).pg=pg:=rfl;rw[e0,hop];simp only;rw[if_pos trivial,if_neg (by
   unfold z4g
   rcases hod with h3|h3
   ·rw[if_pos h3];exact fun h=>h rfl
   ·rw[if_neg (by omega),h3];simp),hdec]
  simp only;rw[if_neg (fun h1=>hne (List.map_eq_nil_iff.1 h1)),g1];simp
 | h+1,f,lo,hi,t,o,s,deep,hk,hz,hz2,hz3,_,hI,hs,hf,hd,h0,hod=>by
  obtain⟨pg,ks,ps,ts,rfl,hr⟩:=hk;obtain⟨g,rfl⟩:∃g,f=g+1:=⟨f-1,by omega⟩
  have hq:=hI.on;have hpg:=hI.pg;have hpg':¬pg=0:=hpg;have hce:=hI.ce;rw[Tr.on] at hq;rw[Tr.es] at hce;obtain⟨hq0,hqk⟩:=hq.1 hpg';have hp0:=hI.rg pg (q44 (.bran pg ks ts) hpg);have huE:∀p,p∈uT (.bran pg ks ts)↔p=pg∨p∈uL ts:=fun p=>by
   unfold uT uL;rw[Tr.pgs,Tr.es,if_neg hpg'];simp
  have hrg:∀p∈uL ts,2≤p∧p<1024∧p<PL.length:=fun p hp=>hI.rg p ((huE p).2 (.inr hp))
  have hone:∀p,[pg].count p+cUL p ts≤1:=fun p=>by
   have:=hI.one p;rw[z7i,if_neg hpg'] at this;exact this
  have hlen2:=KRow.len hr;have hkf:z3j ks:=(TGd.row hr).keys (fun _ _ _ _ h=>h);simp only[Tr.sz] at hz hz2 hz3;have hz3:=hz3 (by omega);have hk1:1≤ks.length:=by
   cases ks with
   | nil=>unfold brSz kss at hz3;simp at hz3
   | cons x r=>simp
  have hpm:∀i,i<ts.length→ts.getD i (.leaf 0 [])∈ts:=fun i hi=>by
   rw[List.getD_eq_getElem?_getD,List.getElem?_eq_getElem hi];exact List.getElem_mem _
  have hpU:∀i,i<ts.length→(ts.getD i (.leaf 0 [])).pg∈uL ts:=fun i hi=>by
   have:=y9b ts i hi (hqk _ (hpm i hi));rw[z23];unfold cUL;omega
  have hmay:mayF ks (ts.map pgI):=by
   refine⟨hkf,fun i hi=> ?_,hk1,by rw[List.length_map];exact hlen2.2⟩;rw[List.length_map] at hi;rw[y7f ts i hi];have h1:=hrg _ (hpU i hi);refine⟨by omega,fun j hj he=> ?_⟩;rw[y7f ts i hi,y7f ts j (by omega)] at he;have h2:=x5a ts j i hj hi (by omega) (hqk _ (hpm i hi));have h3:=hone (ts.getD i (.leaf 0 [])).pg;unfold cUL at h3;omega
  have hfl:(z2n ks (ts.map pgI)).length=brSz ks:=by rw[y1z hkf,y5e]
  have hop:=z9t PL (o:=o) (p:=pg) (k:=2) (l:=z2n ks (ts.map pgI)) hq0 (by omega) (by omega) (by rw[hfl];exact hz) hp0.1 hp0.2.2 (hI.fr pg ((huE pg).2 (.inl rfl)));have hdec:=x0k hmay (by rw[hfl];exact hz);have hnin:∀p∈uL ts,p≠pg:=fun p hp he=>by
   have:=hone p;rw[he] at this hp;have e2:([pg]:List Nat).count pg=1:=List.count_singleton_self;rw[e2] at this;rw[z23] at hp;omega
  obtain⟨o1,g1,_,g4⟩:=x6f PL (h:=h) (f:=g) hr hs hd (fun lo hi t o s deep a1 a2 a3 a4 a5 a6 a7 a8=>x6g h g lo hi t o s deep a1 a2 (fun _=>a3) (fun _=>by omega) (fun h0 h1=>by
   subst h0;obtain⟨pg2,es2,rfl,_⟩:=a1;simp only[Tr.es] at h1;subst h1;have e9:z0s []=1:=by decide
   simp only[Tr.sz] at a3;omega) a4 a5 (by omega) a6 a7 a8) hq.2 hqk hce hrg (fun p=>by have:=hone p;omega) ts.length ⟨o.l,uput o.u pg,o.d⟩ (zlr _) (fun p hp=>by
   rw[Nat.sub_self,List.drop_zero] at hp;show uput o.u pg p=false;unfold uput;rw[if_neg (hnin p hp)];exact hI.fr p ((huE p).2 (.inr hp))) h0 (by rcases hod with h1|h1;exact .inl h1;exact .inr (by rw[h1];omega))
  rw[Nat.sub_self,List.drop_zero] at g1;refine⟨o1,?_,by rw[g4 (by omega)];omega⟩;unfold ldN;have e0:(Tr.bran pg ks ts).pg=pg:=rfl;rw[e0,hop];simp only;rw[if_neg (by decide),if_pos trivial,hdec];simp only[List.length_map];rw[g1];simp
end
end Go.Proofs.YtdnfhjfbanhhcaaGreatDoor
namespace Go.Proofs.YtdnfhjfbanhhcaaGreatDoor
open Go Go.RowKit
abbrev RDG:TypeId:=103
def rdv (pv:Value)(u:Nat→Bool)(d:Int):Array Value:=(pv::((List.range 1024).map (fun k=>Value.bool (u k))++[.int .i64 d])).toArray
theorem z4b (pv:Value)(u:Nat→Bool)(d:Int):(rdv pv u d).size=1026:=by simp[rdv]
theorem x1d (pv:Value)(u:Nat→Bool)(d:Int):(rdv pv u d)[0]? =some pv:=by simp[rdv]
theorem x1e (pv:Value)(u:Nat→Bool)(d:Int)(k:Nat)(h:k<1024):(rdv pv u d)[1+k]? =some (.bool (u k)):=by
 unfold rdv;rw[List.getElem?_toArray,show 1+k=k+1 by omega,List.getElem?_cons_succ,List.getElem?_append_left (by simp;exact h)];simp[h]
theorem x9n (pv:Value)(u:Nat→Bool)(d:Int):(rdv pv u d)[1025]? =some (.int .i64 d):=by
 unfold rdv;rw[List.getElem?_toArray,List.getElem?_cons_succ,List.getElem?_append_right (by simp)];simp
theorem x6h {A:Array Value}{pv:Value}{u:Nat→Bool}{d:Int}(hs:A.size=1026)(h0:A[0]? =some pv)(hu:∀k,k<1024→A[1+k]? =some (.bool (u k)))(hd:A[1025]? =some (.int .i64 d)):A=rdv pv u d:=by
 apply Array.ext_getElem?;intro i
 rcases zng i 1026 with h|h
 ·by_cases h1:i=0
  ·subst h1;rw[h0,x1d]
  ·by_cases h2:i=1025
   ·subst h2;rw[hd,x9n]
   ·obtain⟨k,rfl⟩:∃k,i=1+k:=⟨i-1,by omega⟩
    rw[hu k (by omega),x1e _ _ _ k (by omega)]
 ·rw[Array.getElem?_eq_none (by omega),Array.getElem?_eq_none (by rw[z4b];omega)]
theorem q3j (pv:Value)(u:Nat→Bool)(d:Int)(k:Nat)(h:k<1024):(rdv pv u d).setIfInBounds (1+k) (.bool true)=rdv pv (uput u k) d:=by
 refine x6h (by rw[Array.size_setIfInBounds,z4b]) ?_ (fun j hj=> ?_) ?_
 ·rw[Array.getElem?_setIfInBounds,if_neg (by omega),x1d]
 ·rw[Array.getElem?_setIfInBounds,z4b];unfold uput
  by_cases e:j=k
  ·subst e;rw[if_pos rfl,if_pos (by omega),if_pos rfl]
  ·rw[if_neg (by omega),x1e _ _ _ j hj,if_neg e]
 ·rw[Array.getElem?_setIfInBounds,if_neg (by omega),x9n]
theorem x9o (pv:Value)(u:Nat→Bool)(d d':Int):(rdv pv u d).setIfInBounds 1025 (.int .i64 d')=rdv pv u d':=by
 refine x6h (by rw[Array.size_setIfInBounds,z4b]) ?_ (fun j hj=> ?_) ?_
 ·rw[Array.getElem?_setIfInBounds,if_neg (by omega),x1d]
 ·rw[Array.getElem?_setIfInBounds,if_neg (by omega),x1e _ _ _ j hj]
 ·rw[Array.getElem?_setIfInBounds,if_pos rfl,if_pos (by rw[z4b];omega)]
section
variable {w:World} {gr:Nat} {pv:Value} {u:Nat→Bool} {d:Int}
theorem Blk.g0 (h:Blk w gr RDG (rdv pv u d)):w.cell? ⟨gr,0,none⟩=some pv:=by rw[h.cell,x1d]
theorem Blk.gu (h:Blk w gr RDG (rdv pv u d))(k:Nat)(hk:k<1024):w.cell? ⟨gr,1+k,none⟩=some (.bool (u k)):=by rw[h.cell,x1e _ _ _ k hk]
theorem Blk.gd (h:Blk w gr RDG (rdv pv u d)):w.cell? ⟨gr,1025,none⟩=some (.int .i64 d):=by rw[h.cell,x9n]
theorem Blk.gput (h:Blk w gr RDG (rdv pv u d))(k:Nat)(hk:k<1024):Blk (w.setCell ⟨gr,1+k,none⟩ (.bool true)) gr RDG (rdv pv (uput u k) d):=by rw[←q3j pv u d k hk];exact h.set _ _
theorem Blk.gdeep (h:Blk w gr RDG (rdv pv u d))(d':Int):Blk (w.setCell ⟨gr,1025,none⟩ (.int .i64 d')) gr RDG (rdv pv u d'):=by rw[←x9o pv u d d'];exact h.set _ _
end
def LdW (w:World)(gr:Nat)(a:Option Addr)(P:List (List Nat)):Prop:=∃w0,PgA w0 a P∧z0x w0∧Below w0.heap.size w0 w∧w0.heap.size≤gr
theorem LdW.turn {w w':World}{gr:Nat}{a:Option Addr}{P:List (List Nat)}(h:LdW w gr a P){F:Nat→Prop}(ht:Turn F w w')(hF:∀i,F i→gr≤i):LdW w' gr a P:=by
 obtain⟨w0,h1,h2,h3,h4⟩:=h;exact⟨w0,h1,h2,h3.trans (ht.below h3.size (fun i hi=>znt h4 (hF i hi))),h4⟩
theorem LdW.ext {w w':World}{gr:Nat}{a:Option Addr}{P:List (List Nat)}(h:LdW w gr a P)(hb:Below w.heap.size w w'):LdW w' gr a P:=h.turn (F:=fun _=>False) (q5w hb) (fun _ hf=>hf.elim)
theorem LdW.pg {w:World}{gr:Nat}{a:Option Addr}{P:List (List Nat)}(h:LdW w gr a P):PgA w a P:=by
 obtain⟨w0,h1,_,h3,_⟩:=h;exact h1.below h3 (zlr _)
theorem LdW.wo {w:World}{gr:Nat}{a:Option Addr}{P:List (List Nat)}(h:LdW w gr a P):z0x w:=by
 obtain⟨w0,_,h2,h3,_⟩:=h;exact h2.below h3
abbrev CP:List PanicEntry:=[{v:=.iface 94 (.int .i64 16),recovered:=false}]
theorem z4c (w:World):Calls Tryz.prog 39 #[.bool true] w fun e w'=>e=.returned (.tuple #[])∧w=w':=by
 go_enter Tryz.func39,Tryz.ntmps39
 go_wp2
 go_end0
 exact⟨rfl,rfl⟩
theorem z4d (w:World):Calls Tryz.prog 39 #[.bool false] w fun e w'=>e=.panicked CP∧w=w':=by
 go_enter Tryz.func39,Tryz.ntmps39
 go_wp2;exact⟨rfl,rfl,rfl⟩
def PgQ (w w':World)(gr:Nat)(pv:Value)(x:Option (RO×Nat×List Nat))(e:Ending):Prop:=match x with
 | none=>e=.panicked CP∧Turn (fun i=>i=gr) w w'
 | some (o1,k,b)=>∃v,e=.returned (.tuple #[.int .u8 (k:Nat),v])∧Sl w' v b∧Blk w' gr RDG (rdv pv o1.u o1.d)∧Turn (fun i=>i=gr) w w'
theorem PgA.atW {w:World}{a:Option Addr}{P:List (List Nat)}(h:PgA w a P){k:Nat}(hk:k<P.length):∃g o ad m cc,a=some ⟨g,o,none⟩∧w.cell? ⟨g,o+k,none⟩=some (.slice ad m cc)∧(P.getD k []).length=m∧Src w ad (P.getD k [])∧m≤cc∧cc≤9223372036854775807∧B8 (P.getD k []):=by
 obtain⟨g,o,v,ha,hc,hv⟩:=h k hk;obtain⟨ad,cc,rfl,hs,h1,h2⟩:=hv.ex;exact⟨g,o,ad,_,cc,ha,hc,rfl,hs,h1,h2,hv.b8⟩
set_option maxRecDepth 100000 in
theorem y53 (gr:Nat)(a:Option Addr)(n c:Nat)(P:List (List Nat))(o:RO)(x:Int)(w:World)(hn:P.length=n)(hn9:n≤1024)(hL:LdW w gr a P)(hB:Blk w gr RDG (rdv (.slice a n c) o.u o.d)):
  Calls Tryz.prog 96 #[.pointer (some ⟨gr,0,none⟩),.int .i64 x] w fun e w'=>PgQ w w' gr (.slice a n c) (z3k P o x) e:=by
 have c0:=hB.g0
 by_cases h2:x<2
 ·have e0:z3k P o x=none:=by unfold z3k;rw[if_pos (.inl h2)]
  rw[e0];have e1:decide ((2:Int)≤x)=false:=zdf (by omega);have Hm:=zh (z4d w);clear e0 h2
  go_enter Tryz.func96,Tryz.ntmps96
  go_wp2_with fail;refine Hm.out.mono ?_;rintro e w' ⟨rfl,rfl⟩;go_wp2;exact⟨rfl,rfl,Turn.refl _ _⟩
 obtain⟨k,rfl⟩:∃k:Nat,x=(k:Int):=⟨x.toNat,by omega⟩
 have e1:decide ((2:Int)≤(k:Int))=true:=zdt (by omega)
 by_cases hkn:n≤k
 ·have e0:z3k P o (k:Int)=none:=by unfold z3k;rw[if_pos (.inr (.inl (by omega)))]
  rw[e0];have e2:decide ((k:Int)<(n:Int))=false:=zdf (by omega);have e3:decide (k<n)=false:=zdf (by omega);have Hm:=zh (z4d w);clear e0 h2 hkn
  go_enter Tryz.func96,Tryz.ntmps96
  go_wp2_with fail;refine Hm.out.mono ?_;rintro e w' ⟨rfl,rfl⟩;go_wp2;exact⟨rfl,rfl,Turn.refl _ _⟩
 have hkn':k<n:=by omega
 have hk4:k<1024:=by omega
 have e2:decide ((k:Int)<(n:Int))=true:=zdt (by omega);have e3:decide (k<n)=true:=zdt hkn';have i1:(k:Int)<1024:=by omega
 have i2:(0:Int)≤(k:Int):=by omega
 have i3:(k:Int)<(n:Int):=by omega
 have c1:=hB.gu k hk4;have f1:=hB.fz (1+k)
 cases hu:o.u k with
 | true=>
  have e0:z3k P o (k:Int)=none:=by unfold z3k;rw[if_pos (.inr (.inr (by rw[Int.toNat_natCast];exact hu)))]
  rw[e0];rw[hu] at c1;have Hm:=zh (z4d w);clear e0 h2 hkn hu
  go_enter Tryz.func96,Tryz.ntmps96
  go_wp2_with fail;refine Hm.out.mono ?_;rintro e w' ⟨rfl,rfl⟩;go_wp2;exact⟨rfl,rfl,Turn.refl _ _⟩
 | false=>
  rw[hu] at c1;have e0:z3k P o (k:Int)=if (opS (P.getD k [])).2.2=0 then some (⟨o.l,uput o.u k,o.d⟩,(opS (P.getD k [])).1,(opS (P.getD k [])).2.1) else none:=by
   unfold z3k;rw[Int.toNat_natCast,if_neg (by rw[hu];intro h;rcases h with h|h|h<;>first|omega|cases h)]
  rw[e0];have Hm:=zh (z4c w);have hb2:=hB.gput k hk4;have t2:Turn (fun i=>i=gr) w (w.setCell ⟨gr,1+k,none⟩ (.bool true)):=(Turn.refl _ _).setCell _ (fun _=>rfl);have hL2:=hL.turn t2 (fun i hi=>by omega);obtain⟨W,hW⟩:∃W,w.setCell ⟨gr,1+k,none⟩ (.bool true)=W:=⟨_,rfl⟩
  rw[hW] at hb2 t2 hL2;obtain⟨g,o5,ad,m,cc,rfl,hcell,hm,hsrc,hmc,hcm,hb8⟩:=hL2.pg.atW (k:=k) (by omega);have q0:=hb2.g0;have HO:=zh (x8m ad m cc (P.getD k []) hm W hb8 hmc hcm hsrc hL2.wo);have HM0:=zh (fun w=>z4d w);have HM1:=zh (fun w=>z4c w);rw[←hW] at q0 hcell;have HW:=zh hW;have HB2:=zh hb2;have HT2:=zh t2;clear e0 h2 hkn hu hW hb2 t2 hL2 hm hsrc hmc hcm hb8 hL hB;generalize opS (P.getD k [])=Z at*;obtain⟨kd,ld,er⟩:=Z;dsimp only at HO⊢
  obtain⟨R,hR⟩:∃R,(if er=0 then some ((⟨o.l,uput o.u k,o.d⟩:RO),kd,ld) else none)=R:=⟨_,rfl⟩
  rw[hR];have HR:=zh hR;clear hR
  go_enter Tryz.func96,Tryz.ntmps96
  go_wp2_with fail;refine Hm.out.mono ?_;rintro e w' ⟨rfl,rfl⟩;go_wp2_with fail;rw[HW.out];refine HO.out.mono ?_;rintro e w5 ⟨v,rfl,hv,hb5⟩;have HT5:=zh (HT2.out.step (G:=fun _=>False) (q5w hb5) (fun _ hf _=>hf.elim));have HB5:=zh (HB2.out.ext hb5);have HV:=zh hv;clear hb5 hv q0 hcell
  by_cases h0:er=0
  ·subst h0;have HN1:=zh ((if_pos rfl).symm.trans HR.out);clear HR;rw[show errS 0=.nilIface from rfl];go_wp2_with fail;refine(HM1.out w5).mono ?_;rintro e w' ⟨rfl,rfl⟩;go_wp2
   go_ret2
   rw[←HN1.out];exact⟨v,rfl,HV.out,HB5.out,HT5.out⟩
  ·have HN1:=zh ((if_neg h0).symm.trans HR.out);clear HR;rw[show errS er=.iface 94 (.int .i64 er) by unfold errS;rw[if_neg h0]];clear h0;go_wp2_with fail;refine(HM0.out w5).mono ?_;rintro e w' ⟨rfl,rfl⟩;go_wp2;rw[←HN1.out];exact⟨rfl,rfl,HT5.out⟩
end Go.Proofs.YtdnfhjfbanhhcaaGreatDoor
