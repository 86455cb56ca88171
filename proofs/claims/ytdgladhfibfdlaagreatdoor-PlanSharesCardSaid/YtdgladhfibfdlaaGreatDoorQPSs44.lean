/-
  Steps.
-/
import Derived.Test.YtdgladhfibfdlaaGreatDoorQPSs39
namespace Go.Proofs.YtdgladhfibfdlaaGreatDoor
open Go Go.RowKit Go.Proofs.Tryz
theorem z53:∀(es:List En),(∀e∈es,64<e.v.size→e.ch≠[])→cNs es=0
 | [],_=>rfl
 | e::r,h=>by
  have h1:N0 e=false:=by
   unfold N0
   rcases zng 64 e.v.size with h2|h2
   ·have h3:=h e (by simp) h2;have h4:decide (e.ch.length=0)=false:=zdf (fun h4=>h3 (List.eq_nil_of_length_eq_zero h4));rw[h4,Bool.and_false]
   ·have h4:decide (64<e.v.size)=false:=zdf (by omega);rw[h4,Bool.false_and]
  have h2:cN e=0:=by unfold cN;rw[h1];rfl
  rw[cNs,h2,z53 r (fun x hx=>h x (by simp[hx]))]
theorem y29:∀(es:List En),(∀e∈es,e.v.size≤502)→cNs es≤es.length
 | [],_=>by simp[cNs]
 | e::r,h=>by
  have h1:=h e (by simp);have h2:=y29 r (fun x hx=>h x (by simp[hx]));have h3:cN e≤1:=by
   unfold cN nP;split<;>omega
  rw[cNs,List.length_cons];omega
mutual
theorem y6s:∀(t:Tr),t.need≤t.nw+cNs t.es
 | .leaf pg cs=>by
  rw[Tr.need,Tr.nw,Tr.es]
  by_cases h:pg=0
  ·rw[if_pos h,if_pos h];omega
  ·rw[if_neg h];omega
 | .bran pg ks ts=>by
  have:=Ky ts;rw[Tr.need,Tr.nw,Tr.es]
  by_cases h:pg=0
  ·rw[if_pos h,if_pos h];omega
  ·rw[if_neg h];omega
theorem Ky:∀(ts:List Tr),Z2 ts≤nwL ts+cNs (esL ts)
 | []=>by simp[Z2]
 | t::r=>by
  have h1:=y6s t;have h2:=Ky r;rw[Z2,nwL,esL,Dv];omega
end
theorem y3a:∀(ts:List Tr),(∀t∈ts,t.nw+1≤2*t.es.length)→nwL ts+ts.length≤2*(esL ts).length
 | [],_=>by simp[nwL,esL]
 | t::r,h=>by
  have h1:=h t (by simp);have h2:=y3a r (fun x hx=>h x (by simp[hx]));rw[nwL,esL,List.length_cons,zla];omega
theorem y7u:∀(h:Nat) {lo hi:SB} {t:Tr},TOk h lo hi t→(0<h→3≤t.sz)→(h=0→t.es≠[])→t.nw+1≤2*t.es.length
 | 0,_,_,_,⟨pg,es,h0,_⟩,_,hne=>by
  subst h0;have h1:=hne rfl;rw[Tr.es] at h1⊢
  have:0<es.length:=List.length_pos_iff.2 h1;rw[Tr.nw];split<;>omega
 | h+1,lo,hi,_,⟨pg,ks,ps,ts,h0,hr⟩,hz,_=>by
  subst h0;have hz:=hz (by omega);have hlen:=hr.len;have hk:1≤ks.length:=by
   simp only[Tr.sz] at hz
   cases ks with
   | nil=>unfold T8 kss at hz;simp at hz
   | cons x r=>simp
  have h1:=y3a ts (hr.all (P:=fun t=>t.nw+1≤2*t.es.length) (fun lo hi p t ⟨g1,g2,g3⟩=>y7u h g1 (fun _=>by omega) (fun e hn=>by
   subst e;obtain⟨pg,es,rfl,_⟩:=g1;rw[Tr.es] at hn;subst hn
   revert g2
   simp only[Tr.sz]
   decide)))
  rw[Tr.nw,Tr.es];split<;>omega
theorem xK (p:Nat):∀(ws:List PgW) (P:List (List Nat)),p∉ws.map Prod.fst→(Dy P ws).getD p []=P.getD p []
 | [],_,_=>rfl
 | x::r,P,h=>by
  rw[List.map_cons,List.mem_cons,not_or] at h;rw[Dy,xK p r _ h.2,List.getD_eq_getElem?_getD,List.getElem?_set_ne (Ne.symm h.1),←List.getD_eq_getElem?_getD]
theorem y3b:∀(ws:List PgW) (P:List (List Nat)),(ws.map Prod.fst).Nodup→(∀x∈ws,x.1<P.length)→∀x∈ws,(Dy P ws).getD x.1 []=x.2
 | y::r,P,hn,hl,x,hx=>by
  rw[List.map_cons,List.nodup_cons] at hn;rw[Dy]
  rcases List.mem_cons.1 hx with rfl|hx
  ·rw[xK _ r _ hn.1,List.getD_eq_getElem?_getD,List.getElem?_set_self (hl _ (by simp))];rfl
  ·exact y3b r _ hn.2 (fun z hz=>by rw[List.length_set];exact hl z (by simp[hz])) x hx
theorem z3t (f:Nat→Bool)(x:Nat):∀k,x∈els f k↔x<k∧f x=true
 | 0=>by simp[els]
 | k+1=>by
  rw[els,List.mem_append,z3t f x k];constructor
  ·rintro(h|h)
   ·exact⟨by omega,h.2⟩
   ·split at h
    ·rename_i hf
     rw[List.mem_singleton] at h;subst h;exact⟨by omega,hf⟩
    ·cases h
  ·rintro⟨h1,h2⟩
   by_cases h3:x=k
   ·subst h3;exact .inr (by rw[if_pos h2];simp)
   ·exact .inl ⟨by omega,h2⟩
theorem z1l (f:Nat→Bool):∀k,(els f k).Nodup
 | 0=>by simp[els]
 | k+1=>by
  rw[els,List.nodup_append];refine⟨z1l f k,by split<;>simp,fun x hx y hy=> ?_⟩;have:=((z3t f x k).1 hx).1;split at hy
  ·rw[List.mem_singleton] at hy;omega
  ·cases hy
def Vq (f:Nat→Bool)(ts:List Tr)(m:Nat):Bool:=f m&& !(decide (m<2)||Qw (fun _=>false) (uL ts) m)
def Sk (f:Nat→Bool)(ts:List Tr):List Nat:=(els (Vq f ts) 1024).take (Z2 ts)
section
variable {f:Nat→Bool} {ts:List Tr} (hc:Z2 ts≤cnt (Vq f ts) 1024)
theorem Ow (hc:Z2 ts≤cnt (Vq f ts) 1024):(Sk f ts).length=Z2 ts:=by
 unfold Sk;rw[zlk,Eq];omega
theorem V4 {x:Nat}(h:x∈Sk f ts):f x=true∧2≤x∧x<1024∧x∉uL ts:=by
 obtain⟨h1,h2⟩:=(z3t _ _ _).1 (List.mem_of_mem_take h);unfold Vq Qw at h2;simp only[Bool.and_eq_true,Bool.not_eq_true',Bool.or_eq_false_iff,decide_eq_false_iff_not,Bool.false_or] at h2;exact⟨h2.1,by omega,h1,h2.2.2⟩
theorem KB:(Sk f ts).Nodup:=(z1l _ _).sublist (List.take_sublist _ _)
end
section
variable (P:Nat→List Nat)
structure L5 (ts:List Tr):Prop where
 on:onL (QH P) ts
 ce:∀e∈esL ts,CeO P e
 rg:∀p∈uL ts,2≤p∧p<1024
 one:∀p,cUL p ts≤1
structure xL (ts:List Tr):Prop where
 on:onL (QH P) ts
 pg:∀t∈ts,t.pg≠0
 ce:∀e∈esL ts,CeL P e
 rg:∀p∈uL ts,2≤p∧p<1024
 one:∀p,cUL p ts≤1
variable {P}
theorem xL.mix {ts:List Tr}(h:xL P ts):L5 P ts:=⟨h.on,fun e he=>(h.ce e he).o,h.rg,h.one⟩
theorem xM {p:Nat}:∀{es:List En} {e:En},e∈es→p∈e.ch→p∈chL es
 | x::r,e,he,hp=>by
  rw[chL,List.mem_append]
  rcases List.mem_cons.1 he with rfl|he
  ·exact .inl hp
  ·exact .inr (xM he hp)
theorem z1m {P P':Nat→List Nat}{v:ByteArray}{ch:List Nat}(h:ChH P v ch)(hp:∀p∈ch,P' p=P p):ChH P' v ch:=
 ⟨h.1,fun i hi=>by rw[hp _ (Ox hi)];exact h.2 i hi⟩
theorem y3c {P P':Nat→List Nat}{e:En}(h:CeO P e)(hp:∀p∈e.ch,P' p=P p):CeO P' e:=by
 rcases h with h|h
 ·exact .inl h
 ·exact .inr ⟨h.1,z1m h.2 hp⟩
theorem y3d {P P':Nat→List Nat}{e:En}(h:CeL P e)(hp:∀p∈e.ch,P' p=P p):CeL P' e:=by
 rcases h with h|h
 ·exact .inl h
 ·exact .inr ⟨h.1,z1m h.2 hp⟩
mutual
theorem y6t {P P':Nat→List Nat}:∀(t:Tr),t.on (QH P)→(∀p∈t.pgs,P' p=P p)→t.on (QH P')
 | .leaf pg cs,h,hp=>by
  rw[Tr.on] at h⊢
  intro h0;have h1:=h h0;exact⟨by rw[hp pg (by rw[Tr.pgs,if_neg h0];simp)];exact h1.1,h1.2⟩
 | .bran pg ks ts,h,hp=>by
  rw[Tr.on] at h⊢
  refine⟨fun h0=> ?_,F8 ts h.2 (fun p hq=>hp p (by rw[Tr.pgs,List.mem_append];exact .inr hq))⟩;have h1:=h.1 h0;exact⟨by rw[hp pg (by rw[Tr.pgs,if_neg h0];simp)];exact h1.1,h1.2⟩
theorem F8 {P P':Nat→List Nat}:∀(ts:List Tr),onL (QH P) ts→(∀p∈Pq ts,P' p=P p)→onL (QH P') ts
 | [],_,_=>by rw[onL];trivial
 | t::r,h,hp=>by
  rw[onL] at h⊢
  exact⟨y6t t h.1 (fun p hq=>hp p (by rw[Pq,List.mem_append];exact .inl hq)),F8 r h.2 (fun p hq=>hp p (by rw[Pq,List.mem_append];exact .inr hq))⟩
end
theorem L5.congr {P P':Nat→List Nat}{ts:List Tr}(h:L5 P ts)(hp:∀p∈uL ts,P' p=P p):L5 P' ts:=
 ⟨F8 ts h.on (fun p hq=>hp p (by unfold uL;simp[hq])),fun e he=>y3c (h.ce e he) (fun p hq=>hp p (by unfold uL;simp[xM he hq])),h.rg,h.one⟩
theorem xL.congr {P P':Nat→List Nat}{ts:List Tr}(h:xL P ts)(hp:∀p∈uL ts,P' p=P p):xL P' ts:=
 ⟨F8 ts h.on (fun p hq=>hp p (by unfold uL;simp[hq])),h.pg,fun e he=>y3d (h.ce e he) (fun p hq=>hp p (by unfold uL;simp[xM he hq])),h.rg,h.one⟩
theorem L5.cev {ts:List Tr}(h:L5 P ts){e:En}(he:e∈esL ts)(hv:e.v.size≤2048):CeV e∧e.ch.length≤100000:=by
 have h1:=h.ce e he;refine⟨⟨?_,fun p hp=>h.rg p (by unfold uL;simp[xM he hp])⟩,?_⟩
 ·rcases h1 with h1|h1
  ·exact .inl h1
  ·exact .inr h1.1
 ·rcases h1 with h1|h1
  ·rw[h1];simp
  ·rw[h1.2.1];unfold nP;omega
theorem xN (p:Nat)(es:List En)(a b:Nat)(hab:a≤b):(chL (es.take a)).count p+(chL (es.drop b)).count p≤(chL es).count p:=by
 have h1:es.drop a=(es.drop a).take (b-a)++es.drop b:=by
  have h2:=(List.take_append_drop (b-a) (es.drop a)).symm;rw[List.drop_drop,show a+(b-a)=b by omega] at h2;exact h2
 have h2:=congrArg (fun l=>(chL l).count p) (List.take_append_drop a es);have h3:=congrArg (fun l=>(chL l).count p) h1;simp only[E7,List.count_append] at h2 h3;omega
theorem x0n (p:Nat)(es:List En)(key:ByteArray)(o:List En)(ho:chL o=[]):(chL (rep es key o)).count p≤(chL es).count p:=by
 unfold rep;rw[E7,E7,ho,List.nil_append,List.count_append];exact xN p es _ _ (Nat.le_add_right _ _)
theorem L5.chg {ts ts':List Tr}{n:Nat}{key:ByteArray}{o:List En}(h:L5 P ts)(he:esL ts'=rep (esL ts) key o)(hf:Fr ts ts' n)(ho:∀e∈o,e.ch=[]):L5 P ts':=by
 have hco:chL o=[]:=by
  have:∀l:List En,(∀e∈l,e.ch=[])→chL l=[]:=fun l=>by
   induction l with
   | nil=>intro _;rfl
   | cons x r ih=>intro h;rw[chL,h x (by simp),ih (fun e he=>h e (by simp[he]))];rfl
  exact this o ho
 have hle:∀p,cUL p ts'≤cUL p ts:=fun p=>by
  have h1:=hf.pg p;have h2:=x0n p (esL ts) key o hco;unfold cUL;rw[he];omega
 refine⟨hf.on _ h.on,fun e hm=> ?_,fun p hp=> ?_,fun p=>Nat.le_trans (hle p) (h.one p)⟩
 ·rw[he] at hm
  rcases y0c hm with hm|hm
  ·exact h.ce e hm
  ·exact .inl (ho e hm)
 ·rw[R9] at hp;exact h.rg p ((R9 p ts).2 (Nat.lt_of_lt_of_le hp (hle p)))
theorem L5.put {ts ts':List Tr}{H:Nat}{key v:ByteArray}(h:L5 P ts)(hf:xD ts ts' H key v):L5 P ts':=by
 rcases hf with ⟨h1,h2⟩|⟨rfl,_⟩
 ·exact h.chg h1 h2 (fun e he=>by rw[List.mem_singleton.1 he])
 ·exact h
theorem L5.del {ts ts':List Tr}{H:Nat}{key:ByteArray}(h:L5 P ts)(h1:esL ts'=tdL (esL ts) key)(h2:Fr ts ts' (2*H)):L5 P ts':=by
 unfold tdL at h1;split at h1
 ·exact h.chg h1 h2 (fun e he=>by cases he)
 ·refine⟨h2.on _ h.on,fun e he=>h.ce e (by rw[←h1];exact he),fun p hp=> ?_,fun p=> ?_⟩
  ·rw[R9] at hp;refine h.rg p ((R9 p ts).2 (Nat.lt_of_lt_of_le hp ?_));have:=h2.pg p;unfold cUL;rw[h1];omega
  ·have:=h2.pg p;have h3:=h.one p;unfold cUL at h3⊢;rw[h1];omega
mutual
theorem x0o {Q:Tr→Prop}:∀(t:Tr),t.pgs=[]→t.on Q
 | .leaf pg cs,h=>by
  rw[Tr.on];intro h0;rw[Tr.pgs,if_neg h0] at h
  cases h
 | .bran pg ks ts,h=>by
  rw[Tr.pgs,List.append_eq_nil_iff] at h;rw[Tr.on];refine⟨fun h0=> ?_,xO ts h.2⟩;have h1:=h.1;rw[if_neg h0] at h1
  cases h1
theorem xO {Q:Tr→Prop}:∀(ts:List Tr),Pq ts=[]→onL Q ts
 | [],_=>by rw[onL];trivial
 | t::r,h=>by
  rw[Pq,List.append_eq_nil_iff] at h;rw[onL];exact⟨x0o t h.1,xO r h.2⟩
end
theorem y7v {ts:List Tr}(h1:∀e∈esL ts,e.ch=[])(h2:∀q,(Pq ts).count q=0):uL ts=[]:=by
 have hc:chL (esL ts)=[]:=by
  have:∀l:List En,(∀e∈l,e.ch=[])→chL l=[]:=fun l=>by
   induction l with
   | nil=>intro _;rfl
   | cons x r ih=>intro h;rw[chL,h x (by simp),ih (fun e he=>h e (by simp[he]))];rfl
  exact this _ h1
 unfold uL;rw[hc,List.append_nil]
 cases hp:Pq ts with
 | nil=>rfl
 | cons x r=>
  have:=h2 x;rw[hp] at this;simp at this
theorem L5.new {ts:List Tr}(h1:∀e∈esL ts,e.ch=[])(h2:∀q,(Pq ts).count q=0):L5 P ts:=by
 have hu:=y7v h1 h2;have hpg:Pq ts=[]:=by
  unfold uL at hu;exact(List.append_eq_nil_iff.1 hu).1
 refine⟨xO ts hpg,fun e he=> .inl (h1 e he),fun p hp=> ?_,fun p=> ?_⟩
 ·rw[hu] at hp;cases hp
 ·rw[←y7i,hu];simp
mutual
theorem x3o:∀(t:Tr),t.on (QH P)→t.pg≠0→t.nw=0
 | .leaf pg cs,_,h=>by
  have h':pg≠0:=h;rw[Tr.nw,if_neg h']
 | .bran pg ks ts,ho,h=>by
  have h':pg≠0:=h;rw[Tr.on] at ho;rw[Tr.nw,if_neg h',y3e ts ho.2 (ho.1 h').2]
theorem y3e:∀(ts:List Tr),onL (QH P) ts→(∀t∈ts,t.pg≠0)→nwL ts=0
 | [],_,_=>rfl
 | t::r,ho,h=>by
  rw[onL] at ho;rw[nwL,x3o t ho.1 (h t (by simp)),y3e r ho.2 (fun x hx=>h x (by simp[hx]))]
end
theorem xL.nw {ts:List Tr}(h:xL P ts):nwL ts=0:=y3e ts h.on h.pg
theorem xL.cn {ts:List Tr}(h:xL P ts):cNs (esL ts)=0:=z53 _ (fun e he h1 h2=>by
 rcases h.ce e he with h3|h3
 ·omega
 ·have:=h3.2.1;rw[h2] at this;have h4:0<nP e.v.size:=by unfold nP;omega
  simp at this;omega)
theorem xL.need {ts:List Tr}(h:xL P ts):Z2 ts=0:=by
 have h1:=Ky ts;rw[h.nw,h.cn] at h1;omega
theorem z54:∀(ts:List Tr) (ps:List Nat),(∀t∈ts,t.pg≠0)→Uy ts ps=ts∧wrL ts ps=[]
 | [],_,_=>⟨rfl,rfl⟩
 | t::r,ps,h=>by
  have h1:=z47 t ps (h t (by simp));have h2:=z54 r (ps.drop t.need) (fun x hx=>h x (by simp[hx]));rw[Uy,wrL,h1.1,h1.2,h2.1,h2.2];exact⟨rfl,rfl⟩
section
variable {f:Nat→Bool} {ts:List Tr}
theorem z55 (hc:Z2 ts≤cnt (Vq f ts) 1024)(p:Nat):cUL p (Uy ts (Sk f ts))=cUL p ts+(Sk f ts).count p:=by
 have h1:=zV p ts (Sk f ts) (by rw[Ow hc];exact zlr _) (fun x hx=>by have:=(V4 hx).2.1;omega);rw[h1,List.take_of_length_le (by rw[Ow hc];exact zlr _)]
theorem Mj (hc:Z2 ts≤cnt (Vq f ts) 1024):(wrL ts (Sk f ts)).map Prod.fst=Sk f ts:=by
 rw[z2h ts _ (by rw[Ow hc];exact zlr _),List.take_of_length_le (by rw[Ow hc];exact zlr _)]
theorem z3u (hc:Z2 ts≤cnt (Vq f ts) 1024)(p:Nat):p∈uL (Uy ts (Sk f ts))↔p∈uL ts∨p∈Sk f ts:=by
 rw[R9,R9,z55 hc,←List.count_pos_iff];omega
theorem y6u (p:Nat):(Sk f ts).count p≤1:=List.nodup_iff_count.1 KB p
theorem y3f (hc:Z2 ts≤cnt (Vq f ts) 1024)(ho:∀p,cUL p ts≤1)(p:Nat):cUL p (Uy ts (Sk f ts))≤1:=by
 rw[z55 hc]
 by_cases hp:p∈Sk f ts
 ·have h1:=(V4 hp).2.2.2;rw[R9] at h1;have:=y6u (f:=f) (ts:=ts) p;omega
 ·have h1:(Sk f ts).count p=0:=List.count_eq_zero.2 hp;have:=ho p;omega
theorem y7w (hc:Z2 ts≤cnt (Vq f ts) 1024)(hr:∀p∈uL ts,2≤p∧p<1024)(p:Nat)(hp:p∈uL (Uy ts (Sk f ts))):2≤p∧p<1024:=by
 rcases (z3u hc p).1 hp with hp|hp
 ·exact hr p hp
 ·have:=V4 hp;exact⟨this.2.1,this.2.2.1⟩
theorem L5.lay {P':Nat→List Nat}(h:L5 P ts)(hc:Z2 ts≤cnt (Vq f ts) 1024)(hw:∀x∈wrL ts (Sk f ts),P' x.1=x.2)(ho:∀p∈uL ts,P' p=P p):xL P' (Uy ts (Sk f ts)):=by
 have h':=h.congr ho;obtain⟨h1,h2,h3⟩:=XC P' ts (Sk f ts) (by rw[Ow hc];exact zlr _) (fun x hx=>by have:=(V4 hx).2.1;omega) hw h'.on h'.ce;exact⟨h1,h2,h3,y7w hc h.rg,y3f hc h.one⟩
end
theorem y3g:∀(h:Nat) {lo hi:SB} {t:Tr},TOk h lo hi t→(0<h→3≤t.sz)→(h=0→t.es≠[])→2^h≤t.es.length
 | 0,_,_,_,_,_,hne=>by
  have:=hne rfl;have:0<_:=List.length_pos_iff.2 this;rw[Nat.pow_zero];exact this
 | h+1,lo,hi,_,⟨pg,ks,ps,ts,h0,hr⟩,hz,_=>by
  subst h0;have hz:=hz (by omega);have hk:1≤ks.length:=by
   simp only[Tr.sz] at hz
   cases ks with
   | nil=>unfold T8 kss at hz;simp at hz
   | cons x r=>simp
  have h1:=(hr.map (G':=fun _ _ _ e=>2^h≤e.length) Tr.es (fun lo hi p t ⟨g1,g2,g3⟩=>y3g h g1 (fun _=>by omega) (fun e hn=>by
   subst e;obtain⟨pg,es,rfl,_⟩:=g1;rw[Tr.es] at hn;subst hn
   revert g2
   simp only[Tr.sz]
   decide))).count (m:=2^h) (fun _ _ _ _ h=>h)
  rw[Tr.es,Rq,Nat.pow_succ];exact Nat.le_trans (Nat.mul_le_mul_left _ (by omega)) h1
abbrev pgF (PL:List (List Nat))(p:Nat):List Nat:=PL.getD p []
theorem y6v {PL:List (List Nat)}(hlen:PL.length=1024){h:Nat}{t:Tr}(hk:TOk h none none t)(hz:t.sz≤504)(hz3:0<h→3≤t.sz)(hne:t.es≠[])(hl:t.es.length≤100000)(hL:xL (pgF PL) [t]):
  ∃o,jR PL ((t.pg:Nat):Int)=some o∧o.l=bare t.es∧o.d=1+h:=by
 have hpg:t.pg≠0:=hL.pg t (by simp);have hh:h≤17:=by
  have h1:=y3g h hk hz3 (fun _=>hne)
  rcases zng 17 h with h2|h2
  ·have:=Nat.pow_le_pow_right (n:=2) (by omega) (show 18≤h from h2);omega
  ·exact h2
 have hu:uL [t]=uT t:=by unfold uL uT;rw[U4];simp[Pq]
 have hon:=hL.on;rw[onL] at hon;have hes:=hL.ce;rw[U4] at hes;obtain⟨o1,g1,g2,g3,_⟩:=y14 (P:=pgF PL) (PL:=PL) (fun _ _=>rfl) hlen h (PL.length+1) none none t ⟨[],fun _=>false,0⟩ ⟨ByteArray.empty,ByteArray.empty,true⟩ 1 hk hz (fun h=>by omega) hz3 (fun _=>hne)
  ⟨hon.1,hpg,hes,fun p hp=>hL.rg p (by rw[hu];exact hp),fun p=>by have:=hL.one p;rw[Qu,Iv] at this;omega,fun _ _=>rfl⟩ ⟨rfl,rfl⟩ (by rw[hlen];omega) (by omega) (.inl (by decide))
 refine⟨o1,?_,by rw[g2];rfl,g3⟩;unfold jR;rw[if_neg (by omega)];exact g1
end
end Go.Proofs.YtdgladhfibfdlaaGreatDoor
