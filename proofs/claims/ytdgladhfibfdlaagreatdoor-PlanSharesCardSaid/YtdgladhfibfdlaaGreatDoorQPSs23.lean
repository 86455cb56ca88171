/-
  Steps.
-/
import Derived.Test.YtdgladhfibfdlaaGreatDoorQPSs22
namespace Go.Proofs.YtdgladhfibfdlaaGreatDoor
open Go Go.RowKit Go.Proofs.Tryz
set_option maxRecDepth 100000
def TOk:Nat→SB→SB→Tr→Prop
 | 0,lo,hi,t=>∃pg es,t=.leaf pg es∧ltO lo hi∧srt es∧∀x∈es,okE x∧ins lo hi x.k
 | h+1,lo,hi,t=>∃pg ks ps ts,t=.bran pg ks ts∧X8 (fun lo hi _ t=>TOk h lo hi t∧126≤t.sz∧t.sz≤504) ks lo hi ps ts
theorem x39 {w:World}:∀(h:Nat) {lo hi:SB} {b:Nat} {t:Tr},NdT w h lo hi b t→TOk h lo hi t
 | 0,_,_,_,_,⟨pg,es,h0,_,h1⟩=>⟨pg,es,h0,h1⟩
 | h+1,_,_,_,_,⟨pg,ks,ps,ts,h0,_,h1⟩=>⟨pg,ks,ps,ts,h0,h1.mono (fun _ _ _ _ ⟨h2,h3⟩=>⟨x39 h h2,h3⟩)⟩
def TGd (h:Nat)(lo hi:SB)(_:Nat)(t:Tr):Prop:=TOk h lo hi t∧126≤t.sz∧t.sz≤504
theorem TOk.facts:∀(h:Nat) {lo hi:SB} {t:Tr},TOk h lo hi t→ltO lo hi∧srt t.es∧∀x∈t.es,okE x∧ins lo hi x.k
 | 0,_,_,_,⟨pg,es,h0,h1,h2,h3⟩=>by
  subst h0;rw[Tr.es];exact⟨h1,h2,h3⟩
 | h+1,lo,hi,_,⟨pg,ks,ps,ts,h0,h1⟩=>by
  subst h0;rw[Tr.es];have h2:X8 (fun lo hi _ e=>ltO lo hi∧srt e∧∀x∈e,okE x∧ins lo hi x.k) ks lo hi ps (ts.map Tr.es):=h1.map Tr.es (fun _ _ _ t ⟨h3,_⟩=>TOk.facts h h3);have h3:=h2.facts (fun _ _ _ _ h=>h);rw[Rq];exact⟨h3.1,h3.2.1,h3.2.2.1⟩
theorem TGd.row {h:Nat}{ks:List ByteArray}{lo hi:SB}{ps:List Nat}{ts:List Tr}(hr:X8 (TGd h) ks lo hi ps ts):X8 (fun lo hi _ e=>ltO lo hi∧srt e∧∀x∈e,okE x∧ins lo hi x.k) ks lo hi ps (ts.map Tr.es):=hr.map Tr.es (fun _ _ _ _ hg=>hg.1.facts h)
def SpB (s:Sp)(lo hi:SB):Prop:=(match lo with|none=>s.lo=ByteArray.empty|some a=>s.lo=a)∧(match hi with|none=>s.op=true|some b=>s.op=false∧s.hi=b)
theorem z0u (k:ByteArray):blt k ByteArray.empty=false:=by
 rw[Jv];exact List.not_lt_nil _
theorem SpB.has {s:Sp}{lo hi:SB}(h:SpB s lo hi){k:ByteArray}(hk:ins lo hi k):xR s k=true:=by
 obtain⟨h1,h2⟩:=h;unfold xR;have a1:blt k s.lo=false:=by
  cases lo with
  | none=>rw[show s.lo=ByteArray.empty from h1];exact z0u k
  | some a=>rw[show s.lo=a from h1];exact hk.1
 have a2:(s.op||blt k s.hi)=true:=by
  cases hi with
  | none=>rw[show s.op=true from h2];rfl
  | some b=>rw[h2.2,show blt k b=true from hk.2];simp
 rw[a1,a2];rfl
theorem SpB.part {s:Sp}{lo hi:SB}(h:SpB s lo hi)(ks:List ByteArray)(i:Nat):SpB (Iz s ks i) (lob lo ks i) (hib hi ks i):=by
 unfold SpB Iz lob hib;refine⟨?_,?_⟩
 ·by_cases h0:i=0
  ·subst h0;simp only[if_pos];rw[if_neg (by omega)];exact h.1
  ·rw[if_neg h0];simp only;rw[if_pos (by omega)]
 ·by_cases h0:i<ks.length
  ·rw[if_pos h0];simp only;rw[if_pos h0,if_pos h0];exact⟨rfl,rfl⟩
  ·rw[if_neg h0];simp only;rw[if_neg h0,if_neg h0];exact h.2
theorem y7h {P:Nat→List Nat}{e:En}(h:okE e)(hl:CeL P e)(hr:∀p∈e.ch,2≤p∧p<1024):Nk (cE e)=true:=by
 unfold cE Nk
 rcases hl with ⟨h1,_⟩|⟨h1,h2,_⟩
 ·rw[if_neg (by omega)];simp only;rw[h.1,zdt (show(e.v.size:Int)≤2048 by omega)];unfold plB;rw[if_pos (show((e.v.size:Int))≤64 by omega)];simp
 ·rw[if_pos h1];simp only;have h3:=h.2;rw[h.1,zdt (show(e.v.size:Int)≤2048 by omega)];unfold plB;rw[if_neg (show¬((e.v.size:Int))≤64 by omega)];have h4:0<e.ch.length:=by rw[h2];exact zR.2 (by omega)
  have h5:=hr _ (Ox h4);have h6:(ByteArray.empty).size=0:=rfl;simp only[Bool.true_and];exact zdt ⟨h6,by omega,by omega⟩
theorem y93 (e:En):(cE e).k=e.k:=by unfold cE;split<;>rfl
theorem x2z (e:En):(cE e).n=(e.v.size:Int):=by unfold cE;split<;>rfl
theorem z5c (es:List En)(i:Nat)(h:i<es.length):ca (es.map cE) i=cE (ea es i):=by
 unfold ca ea;simp[List.getD,h]
theorem C6 {P:Nat→List Nat}:∀(es:List En),(∀e∈es,okE e∧CeL P e∧∀p∈e.ch,2≤p∧p<1024)→(Q6 (es.map cE)).length=szs es
 | [],_=>rfl
 | e::r,h=>by
  have h1:=h e (by simp);rw[List.map_cons,Q6,zla,KS (y7h h1.1 h1.2.1 h1.2.2),C6 r (fun x hx=>h x (by simp[hx])),zM,y93,x2z]
  rfl
theorem z0v {P:Nat→List Nat}(es:List En)(h:∀e∈es,okE e∧CeL P e∧∀p∈e.ch,2≤p∧p<1024):(Tj (es.map cE)).length=Y3 es:=by
 rw[Gj,C6 es h,List.length_map];rfl
theorem y5n {P:Nat→List Nat}{es:List En}(h:∀e∈es,okE e∧CeL P e∧∀p∈e.ch,2≤p∧p<1024):Rz (es.map cE):=fun i hi=>by
 rw[List.length_map] at hi;rw[z5c es i hi];have h1:=h _ (Mw hi);exact y7h h1.1 h1.2.1 h1.2.2
theorem z5d {es:List En}(hs:srt es):asc (es.map cE):=fun i h0 hi=>by
 rw[List.length_map] at hi;rw[z5c es i hi,z5c es (i-1) (by omega),y93,y93];exact z98 hs (by omega) hi
theorem z0w (ks:List ByteArray):X7 ks ks.length=T8 ks:=by
 have:∀k,k≤ks.length→X7 ks k=2+kss (ks.take k):=by
  intro k
  induction k with
  | zero=>intro _;rfl
  | succ k ih=>
   intro h;rw[X7,ih (by omega),z1x ks k (by omega),J9];have:kss [sa ks k]=3+(sa ks k).size:=by unfold kss;simp
   rw[this];omega
 rw[this _ (zlr _),List.take_length];rfl
theorem z3a (ts:List Tr)(i:Nat)(h:i<ts.length):ia (ts.map pgI) i=(((ts.getD i (.leaf 0 [])).pg:Nat):Int):=by
 unfold ia;simp[List.getD,h,pgI]
theorem z5e:∀(ts:List Tr) (i:Nat),i<ts.length→(ts.getD i (.leaf 0 [])).pg≠0→1≤(Pq ts).count (ts.getD i (.leaf 0 [])).pg
 | [],i,h,_=>by simp at h
 | t::r,0,_,h0=>by
  have e:(t::r).getD 0 (.leaf 0 [])=t:=rfl;rw[e] at h0⊢
  have e2:([t.pg]:List Nat).count t.pg=1:=List.count_singleton_self;rw[Pq,t.pgs_eq,if_neg h0,List.count_append,List.count_append,e2];omega
 | t::r,i+1,h,h0=>by
  have e:(t::r).getD (i+1) (.leaf 0 [])=r.getD i (.leaf 0 []):=rfl;rw[e] at h0⊢
  have:=z5e r i (by simpa using h) h0;rw[Pq,List.count_append];omega
theorem y10:∀(ts:List Tr) (i j:Nat),i<j→j<ts.length→(ts.getD i (.leaf 0 [])).pg=(ts.getD j (.leaf 0 [])).pg→(ts.getD j (.leaf 0 [])).pg≠0→2≤(Pq ts).count (ts.getD j (.leaf 0 [])).pg
 | [],i,j,_,h,_,_=>by simp at h
 | t::r,0,j+1,_,h,he,h0=>by
  have e:(t::r).getD (j+1) (.leaf 0 [])=r.getD j (.leaf 0 []):=rfl;have e0:(t::r).getD 0 (.leaf 0 [])=t:=rfl;rw[e,e0] at he;rw[e] at h0⊢
  have:=z5e r j (by simpa using h) h0;have h1:t.pg≠0:=by rw[he];exact h0
  have e2:([(r.getD j (.leaf 0 [])).pg]:List Nat).count (r.getD j (.leaf 0 [])).pg=1:=List.count_singleton_self;rw[Pq,t.pgs_eq,if_neg h1,List.count_append,List.count_append,he,e2];omega
 | t::r,i+1,j+1,hij,h,he,h0=>by
  have e:(t::r).getD (j+1) (.leaf 0 [])=r.getD j (.leaf 0 []):=rfl;have e0:(t::r).getD (i+1) (.leaf 0 [])=r.getD i (.leaf 0 []):=rfl;rw[e,e0] at he;rw[e] at h0⊢
  have:=y10 r i j (by omega) (by simpa using h) he h0;rw[Pq,List.count_append];omega
section
variable (P:Nat→List Nat) (PL:List (List Nat))
theorem XH {o:RO}{p k:Nat}{l:List Nat}(hP:PL.getD p []=V7 k l)(hk1:1≤k)(hk5:k≤5)(hl:l.length≤504)(h2:2≤p)(hp:p<PL.length)(hu:o.u p=false):
  T9 PL o ((p:Nat):Int)=some (⟨o.l,Jz o.u p,o.d⟩,k,l):=by
 unfold T9;have e:((p:Nat):Int).toNat=p:=rfl;rw[e,if_neg (by rw[hu];intro h;rcases h with h|h|h<;>first|omega|cases h),hP,y30 hk1 hk5 hl]
 rfl
theorem x18 {v:ByteArray}{ch:List Nat}(hPL:∀p,p<PL.length→PL.getD p []=P p)(hc:ChH P v ch)(hr:∀p∈ch,2≤p∧p<1024)(hlen:PL.length=1024)(h1:∀p,ch.count p≤1):
  ∀(f i:Nat) (o:RO),i≤ch.length→ch.length-i≤f→(∀p∈ch.drop i,o.u p=false)→
  ∃o1,Ix PL f o (QE v i) ((na ch i:Nat):Int) ((v.size:Nat):Int)=some (o1,v)∧o1.l=o.l∧o1.d=o.d∧∀p,o1.u p=(o.u p||decide (p∈ch.drop i)):=by
 obtain⟨hn,hcc⟩:=hc;intro f
 induction f with
 | zero=>
  intro i o hi hf hu;have hin:i=ch.length:=by omega
  have hz:na ch i=0:=XB (by omega);refine⟨o,?_,rfl,rfl,fun p=> ?_⟩
  ·unfold Ix;rw[hz,if_pos (show((0:Nat):Int)=0 from rfl),if_pos (by rw[hin,hn,ZJ]),hin,hn,ZJ]
  ·rw[hin,List.drop_length];simp
 | succ f ih=>
  intro i o hi hf hu
  rcases zng i ch.length with h|h
  ·have hm:=hr _ (Ox h);have hd:ch.drop i=na ch i::ch.drop (i+1):=by
    rw[List.drop_eq_getElem_cons h];simp[na,List.getD,h]
   have hi2:i<nP v.size:=by omega
   have hcut:=z41 hi2;have hnx:na ch (i+1)<1024∧(na ch (i+1)=0∨2≤na ch (i+1)):=by
    rcases Nat.lt_or_ge (i+1) ch.length with h3|h3
    ·have:=hr _ (Ox h3);exact⟨this.2,.inr this.1⟩
    ·rw[XB h3];exact⟨by omega,.inl rfl⟩
   have hok:y4p ((na ch (i+1):Nat):Int) (Iq v i)=true:=by
    unfold y4p E1 QF;rw[Bool.and_eq_true,Bool.and_eq_true,Bool.or_eq_true,Bool.and_eq_true];simp only[decide_eq_true_iff];omega
   obtain⟨b1,b2,b3⟩:=y9h (na ch (i+1)) (Iq v i) hok;have hu0:o.u (na ch i)=false:=hu _ (by rw[hd];simp);have hop:=XH PL (o:=o) (p:=na ch i) (k:=3) (l:=beL (na ch (i+1)) 2++bn (Iq v i)) (by rw[hPL _ (by omega)];exact hcc i h) (by omega) (by omega) (by rw[y7b];omega) hm.1 (by omega) hu0;have hne:∀p∈ch.drop (i+1),p≠na ch i:=fun p hp he=>by
    have h4:=h1 (na ch i);have e5:ch.count (na ch i)=(ch.take i).count (na ch i)+(ch.drop i).count (na ch i):=by rw[←List.count_append,List.take_append_drop]
    rw[hd,List.count_cons_self] at e5;have h6:0<(ch.drop (i+1)).count (na ch i):=List.count_pos_iff.2 (he▸hp);omega
   obtain⟨o1,g1,g2,g3,g4⟩:=ih (i+1) ⟨o.l,Jz o.u (na ch i),o.d⟩ (by omega) (by omega) (fun p hp=>by
    show Jz o.u (na ch i) p=false;unfold Jz;rw[if_neg (hne p hp)];exact hu p (by rw[hd];exact List.mem_cons_of_mem _ hp))
   refine⟨o1,?_,g2,g3,fun p=> ?_⟩
   ·unfold Ix;rw[if_neg (by omega),hop];simp only;have hbad:¬Ru 3 (beL (na ch (i+1)) 2++bn (Iq v i)) (QE v i) ((v.size:Nat):Int):=by
     unfold Ru;rw[b1,b2,b3,jQ v i (by have:=zR.1 hi2;omega)];rintro(h5|h5|h5|⟨h5,h6⟩)
     ·exact h5 rfl
     ·exact h5 rfl
     ·unfold QE at h5;rw[ByteArray.size_extract] at h5;omega
     ·have:i+1<nP v.size:=by
       rcases Nat.lt_or_ge (i+1) ch.length with h7|h7
       ·omega
       ·rw[XB h7] at h5;exact absurd rfl h5
      rw[y4o this] at h6;omega
    rw[if_neg hbad,b1,b2,jQ v i (by have:=zR.1 hi2;omega)];exact g1
   ·rw[g4 p,hd];show(Jz o.u (na ch i) p||_)=_;unfold Jz
    by_cases h5:p=na ch i
    ·rw[if_pos h5,h5];simp
    ·rw[if_neg h5];simp[h5]
  ·have hin:i=ch.length:=by omega
   have hz:na ch i=0:=XB (by omega);refine⟨o,?_,rfl,rfl,fun p=> ?_⟩
   ·unfold Ix;rw[hz,if_pos (show((0:Nat):Int)=0 from rfl),if_pos (by rw[hin,hn,ZJ]),hin,hn,ZJ]
   ·rw[hin,List.drop_length];simp
theorem y11 (s:Sp)(f:Nat)(hf:5≤f)(hPL:∀p,p<PL.length→PL.getD p []=P p)(hlen:PL.length=1024):
  ∀(es:List En) (o:RO),(∀e∈es,okE e∧CeL P e∧(∀p∈e.ch,2≤p∧p<1024)∧xR s e.k=true)→(∀p,(chL es).count p≤1)→(∀p∈chL es,o.u p=false)→
  ∃o1,Ku PL f s (es.map cE) o=some o1∧o1.l=o.l++bare es∧o1.d=o.d∧∀p,o1.u p=(o.u p||decide (p∈chL es))
 | [],o,_,_,_=>⟨o,by simp[Ku],by simp[bare],rfl,fun p=>by simp[chL]⟩
 | e::r,o,hk,h1,hu=>by
  obtain⟨k1,k2,k3,k4⟩:=hk e (by simp);have hval:∃o2,(if 64<(cE e).n then Ix PL f o ByteArray.empty (cE e).p (cE e).n else some (o,(cE e).v))=some (o2,e.v)∧o2.l=o.l∧o2.d=o.d∧∀p,o2.u p=(o.u p||decide (p∈e.ch)):=by
   rcases k2 with ⟨h2,h3⟩|⟨h2,h3⟩
   ·refine⟨o,?_,rfl,rfl,fun p=>by rw[h3];simp⟩;rw[x2z,if_neg (by omega)];unfold cE;rw[if_neg (by omega)]
   ·have hsz:=k1.2;have hl5:e.ch.length≤5:=by rw[h3.1];unfold nP;omega
    obtain⟨o2,g1,g2,g3,g4⟩:=x18 P PL hPL h3 k3 hlen (fun p=>by have:=h1 p;rw[chL,List.count_append] at this;omega) f 0 o (by omega) (by omega) (fun p hp=>hu p (by rw[chL];exact List.mem_append_left _ hp));refine⟨o2,?_,g2,g3,g4⟩;rw[x2z,if_pos (by omega)];rw[y0n] at g1;have e1:(cE e).p=((na e.ch 0:Nat):Int):=by unfold cE;rw[if_pos h2]
    rw[e1];exact g1
  obtain⟨o2,v1,v2,v3,v4⟩:=hval;have hdis:∀p,p∈chL r→¬p∈e.ch:=fun p hp he=>by
   have:=h1 p;rw[chL,List.count_append] at this;have a:=List.count_pos_iff.2 hp;have b:=List.count_pos_iff.2 he;omega
  obtain⟨o3,g1,g2,g3,g4⟩:=y11 s f hf hPL hlen r ⟨o2.l++[⟨(cE e).k,e.v,[]⟩],o2.u,o2.d⟩ (fun x hx=>hk x (by simp[hx])) (fun p=>by have:=h1 p;rw[chL,List.count_append] at this;omega) (fun p hp=>by
   show o2.u p=false;rw[v4 p,hu p (by rw[chL];exact List.mem_append_right _ hp)];simp[hdis p hp])
  refine⟨o3,?_,?_,by rw[g3];exact v3,fun p=> ?_⟩
  ·rw[List.map_cons];unfold Ku;rw[v1];simp only;rw[y93,if_pos k4];rw[y93] at g1;exact g1
  ·rw[g2];simp only;rw[v2,y93];simp[bare,En.bare]
  ·rw[g4 p];simp only;rw[v4 p,chL];simp only[List.mem_append,Bool.decide_or,Bool.or_assoc]
def uL (ts:List Tr):List Nat:=Pq ts++chL (esL ts)
def uT (t:Tr):List Nat:=t.pgs++chL t.es
theorem x19 (p:Nat)(t:Tr):(uT t).count p=cU p t:=by unfold uT cU;rw[List.count_append]
theorem y7i (p:Nat)(ts:List Tr):(uL ts).count p=cUL p ts:=by unfold uL cUL;rw[List.count_append]
theorem R9 (p:Nat)(ts:List Tr):p∈uL ts↔0<cUL p ts:=by rw[←y7i];exact List.count_pos_iff.symm
theorem y12 (p:Nat)(t:Tr):p∈uT t↔0<cU p t:=by rw[←x19];exact List.count_pos_iff.symm
theorem Mx (p:Nat)(t:Tr)(r:List Tr):p∈uL (t::r)↔p∈uT t∨p∈uL r:=by
 rw[R9,R9,y12,Qu];omega
structure RdI (o:RO) (t:Tr):Prop where
 on:t.on (QH P)
 pg:t.pg≠0
 ce:∀e∈t.es,CeL P e
 rg:∀p∈uT t,2≤p∧p<1024
 one:∀p,cU p t≤1
 fr:∀p∈uT t,o.u p=false
def x2a (h f:Nat)(t:Tr)(o:RO)(s:Sp)(deep:Int):Prop:=
 ∃o1,Xy PL f o ((t.pg:Nat):Int) s deep=some o1∧o1.l=o.l++bare t.es∧o1.d=deep+h∧∀p,o1.u p=(o.u p||decide (p∈uT t))
theorem x2b (t:Tr)(h:t.pg≠0):t.pg∈uT t:=by
 unfold uT;rw[t.pgs_eq,if_neg h];simp
theorem y13 {h f:Nat}{ks:List ByteArray}{lo hi:SB}{ps:List Nat}{ts:List Tr}{s:Sp}{deep:Int}(hr:X8 (TGd h) ks lo hi ps ts)(hs:SpB s lo hi)(hd:1≤deep)
  (ih:∀(lo hi:SB) (t:Tr) (o:RO) (s:Sp) (deep:Int),TOk h lo hi t→t.sz≤504→126≤t.sz→RdI P o t→SpB s lo hi→1≤deep→(o.d≤0∨o.d=deep+h)→x2a PL h f t o s deep)
  (hon:onL (QH P) ts) (hpg:∀t∈ts,t.pg≠0) (hce:∀e∈esL ts,CeL P e) (hrg:∀p∈uL ts,2≤p∧p<1024) (hone:∀p,cUL p ts≤1):
  ∀(t:Nat) (o:RO),t≤ts.length→(∀p∈uL (ts.drop (ts.length-t)),o.u p=false)→(o.d≤0∨o.d=deep+1+h)→
  ∃o1,Ij (Xy PL f) ks (ts.map pgI) s deep t o=some o1∧o1.l=o.l++bare (esL (ts.drop (ts.length-t)))∧(t=0→o1.d=o.d)∧(0<t→o1.d=deep+1+h)∧∀p,o1.u p=(o.u p||decide (p∈uL (ts.drop (ts.length-t))))
 | 0,o,_,_,_=>by
  refine⟨o,by unfold Ij;rfl,?_,fun _=>rfl,fun h=>by omega,fun p=> ?_⟩
  ·rw[Nat.sub_zero,List.drop_length];simp[esL,bare]
  ·rw[Nat.sub_zero,List.drop_length];have:¬p∈uL []:=by rw[R9,Iv];omega
   simp[this]
 | t+1,o,ht,hu,hod=>by
  have hlen:=hr.len;obtain⟨i,hix⟩:∃i,ts.length-(t+1)=i:=⟨_,rfl⟩
  have hit:ts.length-t=i+1:=by omega
  have hil:i<ts.length:=by omega
  rw[hix] at hu⊢
  obtain⟨u,hu0⟩:∃u,ta ts i=u:=⟨_,rfl⟩
  have hdrop:ts.drop i=u::ts.drop (i+1):=by rw[←hu0];exact yQ hil
  have hkid:TGd h (lob lo ks i) (hib hi ks i) (na ps i) u:=by rw[←hu0];exact hr.kid (d:=default) (by omega)
  have hmem:u∈ts:=by
   have:u∈ts.drop i:=by rw[hdrop];simp
   exact List.mem_of_mem_drop this
  have hsplit:∀p,cUL p ts=cUL p (ts.take i)+(cU p u+cUL p (ts.drop (i+1))):=fun p=>by
   rw[←Qu,←hdrop,←y01,List.take_append_drop]
  have hmu:∀p,p∈uT u→p∈uL ts:=fun p hp=>by
   rw[y12] at hp;rw[R9,hsplit p];omega
  have hes:∀e,e∈u.es→e∈esL ts:=fun e he=>by
   have e1:esL ts=esL (ts.take i)++(u.es++esL (ts.drop (i+1))):=by rw[←esL,←hdrop,←Qv,List.take_append_drop]
   rw[e1];simp[he]
  have hI:RdI P o u:=⟨y04 hon u hmem,hpg u hmem,fun e he=>hce e (hes e he),fun p hp=>hrg p (hmu p hp),fun p=>by have:=hone p;rw[hsplit p] at this;omega,fun p hp=>hu p (by rw[hdrop,Mx];exact .inl hp)⟩
  obtain⟨o1,n1,n2,n3,n4⟩:=ih _ _ u o (Iz s ks i) (deep+1) hkid.1 hkid.2.2 hkid.2.1 hI (hs.part ks i) (by omega) hod;have hdis:∀p,p∈uL (ts.drop (i+1))→¬p∈uT u:=fun p hp he=>by
   have:=hone p;rw[hsplit p] at this;rw[R9] at hp;rw[y12] at he;omega
  obtain⟨o2,m1,m2,m3,m4,m5⟩:=y13 hr hs hd ih hon hpg hce hrg hone t o1 (by omega) (fun p hp=>by
   rw[hit] at hp;rw[n4 p,hu p (by rw[hdrop,Mx];exact .inr hp)];simp[hdis p hp]) (.inr (by rw[n3]))
  rw[hit] at m2 m5;refine⟨o2,?_,?_,fun h=>by omega,fun _=> ?_,fun p=> ?_⟩
  ·unfold Ij;rw[List.length_map,hix];have hia:ia (ts.map pgI) i=((u.pg:Nat):Int):=by
    rw[z3a ts i hil];have:ts.getD i (.leaf 0 [])=u:=hu0;rw[this]
   have hkey:¬(0<i∧xR s (sa ks (i-1))=false):=by
    rintro⟨h0,h1⟩;have h2:=hr.split (i:=i-1) (by omega);have a:=(TGd.row h2.1).facts (fun _ _ _ _ h=>h);have b:=(TGd.row h2.2.2).facts (fun _ _ _ _ h=>h);have h3:ins lo hi (sa ks (i-1)):=by
     refine⟨?_,?_⟩
     ·cases lo with
      | none=>trivial
      | some x=>exact G3 a.1
     ·cases hi with
      | none=>trivial
      | some x=>exact b.1
    rw[hs.has h3] at h1
    cases h1
   rw[if_neg hkey,hia,n1];exact m1
  ·rw[m2,n2,hdrop,esL,G5,List.append_assoc]
  ·rcases Nat.eq_zero_or_pos t with h0|h0
   ·rw[m3 h0,n3]
   ·exact m4 h0
  ·rw[m5 p,n4 p,hdrop,Bool.or_assoc,←Bool.decide_or]
   congr 1
   rw[decide_eq_decide,Mx]
theorem y14 (hPL:∀p,p<PL.length→PL.getD p []=P p)(hlen:PL.length=1024):
  ∀(h f:Nat) (lo hi:SB) (t:Tr) (o:RO) (s:Sp) (deep:Int),TOk h lo hi t→t.sz≤504→(1<deep→126≤t.sz)→(0<h→3≤t.sz)→(h=0→t.es≠[])→RdI P o t→SpB s lo hi→h+6≤f→1≤deep→(o.d≤0∨o.d=deep+h)→x2a PL h f t o s deep
 | 0,f,lo,hi,t,o,s,deep,hk,hz,hz2,_,hne,hI,hs,hf,hd,hod=>by
  obtain⟨pg,es,rfl,hlt,hsr,hok⟩:=hk;obtain⟨g,rfl⟩:∃g,f=g+1:=⟨f-1,by omega⟩
  have hne:=hne rfl;have hq:=hI.on;have hpg:=hI.pg;have hce:=hI.ce;rw[Tr.on] at hq;simp only[Tr.es] at hne hce;have hq0:=(hq hpg).1;have hp0:=hI.rg pg (x2b (.leaf pg es) hpg);have huE:∀p,p∈uT (.leaf pg es)↔p=pg∨p∈chL es:=fun p=>by
   unfold uT;have hpg':¬pg=0:=hpg;rw[Tr.pgs,Tr.es,if_neg hpg'];simp
  have hrg:∀p∈chL es,2≤p∧p<1024:=fun p hp=>hI.rg p ((huE p).2 (.inr hp))
  have hone:∀p,[pg].count p+(chL es).count p≤1:=fun p=>by
   have:=hI.one p;have hpg':¬pg=0:=hpg;rw[z2g,if_neg hpg'] at this;exact this
  have hchm:∀(es:List En) e,e∈es→∀p∈e.ch,p∈chL es:=by
   intro es
   induction es with
   | nil=>intro e he;cases he
   | cons a r ih=>
    intro e he p hp;rw[chL,List.mem_append]
    rcases List.mem_cons.1 he with rfl|he
    ·exact .inl hp
    ·exact .inr (ih e he p hp)
  have hall:∀e∈es,okE e∧CeL P e∧∀p∈e.ch,2≤p∧p<1024:=fun e he=>⟨(hok e he).1,hce e he,fun p hp=>hrg p (hchm es e he p hp)⟩
  have hll:=z0v es hall;simp only[Tr.sz] at hz hz2;have hop:=XH PL (o:=o) (p:=pg) (k:=1) (l:=Tj (es.map cE)) (by rw[hPL pg (by omega)];exact hq0) (by omega) (by omega) (by rw[hll];exact hz) hp0.1 (by omega) (hI.fr pg ((huE pg).2 (.inl rfl)));have hdec:=z9x (y5n hall) (z5d hsr) (by rw[hll];exact hz);have hnin:∀p∈chL es,p≠pg:=fun p hp he=>by
   have:=hone p;rw[he] at this hp;have e2:([pg]:List Nat).count pg=1:=List.count_singleton_self;rw[e2] at this;have:=List.count_pos_iff.2 hp;omega
  obtain⟨o1,g1,g2,g3,g4⟩:=y11 P PL s g (by omega) hPL hlen es ⟨o.l,Jz o.u pg,deep⟩ (fun e he=>⟨(hall e he).1,(hall e he).2.1,(hall e he).2.2,hs.has (hok e he).2⟩) (fun p=>by have:=hone p;omega) (fun p hp=>by
   show Jz o.u pg p=false;unfold Jz;rw[if_neg (hnin p hp)];exact hI.fr p ((huE p).2 (.inr hp)))
  refine⟨o1,?_,by rw[g2,Tr.es],by rw[g3];simp,fun p=> ?_⟩
  ·unfold Xy;have e0:(Tr.leaf pg es).pg=pg:=rfl;rw[e0,hop];simp only;rw[if_neg (by rw[hll];rintro⟨h1,h2⟩;have:=hz2 h1;omega),if_pos trivial,hdec];simp only;rw[if_neg (by
    rintro(h1|⟨h1,h2⟩)
    ·exact hne (List.map_eq_nil_iff.1 h1)
    ·rcases hod with h3|h3
     ·omega
     ·apply h2;rw[h3];simp)]
   exact g1
  ·rw[g4 p];show(Jz o.u pg p||_)=_;unfold Jz
   by_cases h5:p=pg
   ·rw[if_pos h5];have:p∈uT (.leaf pg es):=(huE p).2 (.inl h5);simp[this]
   ·rw[if_neg h5]
    congr 1
    rw[decide_eq_decide,huE p];simp[h5]
 | h+1,f,lo,hi,t,o,s,deep,hk,hz,hz2,hz3,_,hI,hs,hf,hd,hod=>by
  obtain⟨pg,ks,ps,ts,rfl,hr⟩:=hk;obtain⟨g,rfl⟩:∃g,f=g+1:=⟨f-1,by omega⟩
  have hq:=hI.on;have hpg:=hI.pg;have hpg':¬pg=0:=hpg;have hce:=hI.ce;rw[Tr.on] at hq;rw[Tr.es] at hce;obtain⟨hq0,hqk⟩:=hq.1 hpg';have hp0:=hI.rg pg (x2b (.bran pg ks ts) hpg);have huE:∀p,p∈uT (.bran pg ks ts)↔p=pg∨p∈uL ts:=fun p=>by
   unfold uT uL;rw[Tr.pgs,Tr.es,if_neg hpg'];simp
  have hrg:∀p∈uL ts,2≤p∧p<1024:=fun p hp=>hI.rg p ((huE p).2 (.inr hp))
  have hone:∀p,[pg].count p+cUL p ts≤1:=fun p=>by
   have:=hI.one p;rw[YY,if_neg hpg'] at this;exact this
  have hlen2:=X8.len hr;have hkf:Pw ks:=(TGd.row hr).keys (fun _ _ _ _ h=>h);simp only[Tr.sz] at hz hz2 hz3;have hz3:=hz3 (by omega);have hk1:1≤ks.length:=by
   cases ks with
   | nil=>unfold T8 kss at hz3;simp at hz3
   | cons x r=>simp
  have hpm:∀i,i<ts.length→ts.getD i (.leaf 0 [])∈ts:=fun i hi=>by
   rw[List.getD_eq_getElem?_getD,List.getElem?_eq_getElem hi];exact List.getElem_mem _
  have hpU:∀i,i<ts.length→(ts.getD i (.leaf 0 [])).pg∈uL ts:=fun i hi=>by
   have:=z5e ts i hi (hqk _ (hpm i hi));rw[R9];unfold cUL;omega
  have hmay:Gy ks (ts.map pgI):=by
   refine⟨hkf,fun i hi=> ?_,hk1,by rw[List.length_map];exact hlen2.2⟩;rw[List.length_map] at hi;rw[z3a ts i hi];have h1:=hrg _ (hpU i hi);refine⟨by omega,fun j hj he=> ?_⟩;rw[z3a ts i hi,z3a ts j (by omega)] at he;have h2:=y10 ts j i hj hi (by omega) (hqk _ (hpm i hi));have h3:=hone (ts.getD i (.leaf 0 [])).pg;unfold cUL at h3;omega
  have hfl:(Rj ks (ts.map pgI)).length=T8 ks:=by rw[zC hkf,z0w]
  have hop:=XH PL (o:=o) (p:=pg) (k:=2) (l:=Rj ks (ts.map pgI)) (by rw[hPL pg (by omega)];exact hq0) (by omega) (by omega) (by rw[hfl];exact hz) hp0.1 (by omega) (hI.fr pg ((huE pg).2 (.inl rfl)));have hdec:=z6v hmay (by rw[hfl];exact hz);have hnin:∀p∈uL ts,p≠pg:=fun p hp he=>by
   have:=hone p;rw[he] at this hp;have e2:([pg]:List Nat).count pg=1:=List.count_singleton_self;rw[e2] at this;rw[R9] at hp;omega
  obtain⟨o1,g1,g2,g3,g4,g5⟩:=y13 P PL (h:=h) (f:=g) hr hs hd (fun lo hi t o s deep a1 a2 a3 a4 a5 a6 a7=>y14 hPL hlen h g lo hi t o s deep a1 a2 (fun _=>a3) (fun _=>by omega) (fun h0 h1=>by
   subst h0;obtain⟨pg2,es2,rfl,_⟩:=a1;simp only[Tr.es] at h1;subst h1;have e9:Y3 []=1:=by decide
   simp only[Tr.sz] at a3;omega) a4 a5 (by omega) a6 a7) hq.2 hqk hce hrg (fun p=>by have:=hone p;omega) ts.length ⟨o.l,Jz o.u pg,o.d⟩ (zlr _) (fun p hp=>by
   rw[Nat.sub_self,List.drop_zero] at hp;show Jz o.u pg p=false;unfold Jz;rw[if_neg (hnin p hp)];exact hI.fr p ((huE p).2 (.inr hp))) (by rcases hod with h1|h1;exact .inl h1;exact .inr (by rw[h1];omega))
  rw[Nat.sub_self,List.drop_zero] at g2 g5;refine⟨o1,?_,by rw[g2,Tr.es],by rw[g4 (by omega)];omega,fun p=> ?_⟩
  ·unfold Xy;have e0:(Tr.bran pg ks ts).pg=pg:=rfl;rw[e0,hop];simp only;rw[if_neg (by rw[hfl];rintro⟨h1,h2⟩;have:=hz2 h1;omega),if_neg (by decide),if_pos trivial,hdec];simp only[List.length_map];exact g1
  ·rw[g5 p];show(Jz o.u pg p||_)=_;unfold Jz
   by_cases h5:p=pg
   ·rw[if_pos h5];have:p∈uT (.bran pg ks ts):=(huE p).2 (.inl h5);simp[this]
   ·rw[if_neg h5]
    congr 1
    rw[decide_eq_decide,huE p];simp[h5]
end
def Mz (w:World)(h:Nat)(lo hi:SB)(t:Tr)(key:ByteArray)(o:List En)(e:Ending)(w':World):Prop:=
 ∃b2 t2,e=.returned (pt b2)∧NdT w' h lo hi b2 t2∧(t2.es=rep t.es key o∧t2.pg=0∧Fr t.kids t2.kids (2*h))∧t2.sz≤t.sz+107∧(0<h→t2.sz≤t.sz+43∧t.sz≤t2.sz+43)∧zB w w'
theorem yS {lo hi:SB}(b:Nat)(t:Tr)(key:ByteArray)(a:Option Addr)(n c:Nat)(o:List En)(w:World)(hn:NdT w 0 lo hi b t)(hs:t.sz≤504)(hi':ins lo hi key)(ho:x2x key o)(hoE:∀x∈o,okE x)
  (hno:o.length=n) (hes:CS w a o) (hz:a=none→c=0):
  Calls prog 91 #[pt b,.string key,.slice a n c] w fun e w'=>Mz w 0 lo hi t key o e w':=by
 obtain⟨pg,es,rfl,⟨vc,np,a0,c0,rfl,s0,z0,hnc,hcm⟩,hlt,hsr,hok⟩:=hn;have nb:=np.nb;simp only[Tr.sz] at hs;obtain⟨s,hsz⟩:∃s,s=Y3 es:=⟨_,rfl⟩
 rw[←hsz] at hs;have g1:=Vu (fun x hx=>(hok x hx).1);have hvp:=O1 es.length;have hel:es.length≤200:=by unfold Y3 at hsz;omega
 have hn1:n≤1:=by rcases ho with rfl|⟨v,rfl⟩<;>simp at hno<;>omega
 have q0:=nb.c1;have hil:=zh (Nq b _ _ w nb);have Hfd:=zh (z0k a0 es.length c0 es key w rfl s0 hsr (by omega));have Hnb:=zh nb;have HS:=zh (zai s0 (zai z0 (zai hnc hcm)));have HO:=zh (zai hes (zai hz hno));have hfl:=QD es key
 --what is there in the end
 have hfin:Hid (∀(w':World) (b2:Nat),QG w' b2 0 (rep es key o)→zB w w'→Mz w 0 lo hi (.leaf pg es) key o (.returned (pt b2)) w'):=fun w' b2 hl hb=>by
  have hr:∀x∈rep es key o,okE x∧ins lo hi x.k:=fun x hx=>by
   rcases y0c hx with h1|h1
   ·exact hok x h1
   ·refine⟨hoE x h1,?_⟩
    rcases ho with rfl|⟨v,rfl⟩
    ·cases h1
    ·simp only[List.mem_singleton] at h1;subst h1;exact hi'
  refine⟨b2,.leaf 0 (rep es key o),rfl,⟨0,_,rfl,hl,hlt,y9d hsr ho,hr⟩,⟨by simp only[Tr.es],rfl,Fr.refl _⟩,?_,fun h=>by omega,hb⟩;have hsum:szs es=szs (es.take (fE es key))+szs (es.drop (fE es key)):=by rw[←Eu,List.take_append_drop]
  have hsum2:szs (es.drop (fE es key))=szs ((es.drop (fE es key)).take (Tx es key))+szs (es.drop (fE es key+Tx es key)):=by
   rw[←Eu,←List.drop_drop,List.take_append_drop]
  have hso:szs o≤106:=by
   have:=(Vu hoE).2;rw[hno] at this;omega
  have e1:szs (rep es key o)=szs (es.take (fE es key))+(szs o+szs (es.drop (fE es key+Tx es key))):=by unfold rep;rw[Eu,Eu]
  have hv:vs (rep es key o).length≤2:=D9 2 _ (by have:=Ey es key o;omega) (by omega);have e2:Y3 (rep es key o)=vs (rep es key o).length+szs (rep es key o):=rfl;simp only[Tr.sz];rw[←hsz];unfold Y3 at hsz;omega
 have hrep:Hid (rep es key o=es.take (fE es key)++(o++es.drop (fE es key+Tx es key))):=rfl;have hgo:Hid (Tx es key=if isE es key=true then 1 else 0):=rfl;obtain⟨N,hN⟩:∃N,es.length=N:=⟨_,rfl⟩
 have HN:=zh hN;rw[hN] at q0 Hfd hfl hel HS Hnb;clear np nb s0 z0 hnc hcm hes hz hno hsr hok hsz hoE ho g1 hN hlt hvp hs;generalize fE es key=F at*;generalize Tx es key=Gn at*
 go_enter func91,ntmps91
 go_wp2_with fail;refine hil.out.mono ?_;rintro e w' ⟨rfl,rfl⟩;clear hil;go_wp2_with fail;refine Hfd.out.mono ?_;rintro e w1 ⟨rfl,hb1⟩;have HB:=zh hb1;have q1:=(Hnb.out.ext hb1).c1;clear Hfd hb1 q0;have Hcall:∀G:Nat,G=Gn→Hid (Calls prog 120 #[.slice a0 N c0,.int .i64 F,.int .i64 G,.slice a n c] w1 fun e w'=>∃v,e=.returned v∧CV w' v (rep es key o)∧zB w1 w'):=fun G hG=>by
  rw[hrep.out,←hG];exact y45 a0 N c0 es F G a n c o w1 HN.out (HS.out.1.below HB.out (zlr _)) HS.out.2.2.1 HS.out.2.2.2 HS.out.2.1 (by omega) HO.out.2.2 HO.out.2.1 (HO.out.1.below HB.out (zlr _)) (by omega) (by omega)
 have hend:Hid (∀(w2:World) (a4:Option Addr) (c4 N4:Nat),(rep es key o).length=N4→CS w2 a4 (rep es key o)∧(a4=none→c4=0)∧(rep es key o).length≤c4∧c4≤maxLen→zB w1 w2→Mz w 0 lo hi (.leaf pg es) key o (.returned (pt w2.heap.size)) (w2.alloc (.cells #[.int .i64 0,.slice a4 N4 c4,Z0,Z0] NT))):=fun w2 a4 c4 N4 h1 h2 h3=>by
  have h4:zB w2 (w2.alloc (.cells #[.int .i64 0,.slice a4 N4 c4,Z0,Z0] NT)):=(zbr _ _).alloc (zlr _) _;have h5:=HB.out.trans (h3.mono HB.out.size);exact hfin.out _ _ ⟨_,NP.new _ 0 _ _ _,a4,c4,by rw[h1],h2.1.below h4 (zlr _),h2.2⟩ (h5.trans (h4.mono h5.size))
 have Hcall:=zh Hcall;clear hfin hrep HS HO HB Hnb HN
 cases hI:isE es key with
 | true=>
  have h1:=zh (Hcall.out 1 (by rw[hgo.out,if_pos hI]));clear Hcall hgo hI hfl;go_wp2_with fail;refine h1.out.mono ?_;rintro e w2 ⟨v,rfl,⟨a4,c4,rfl,s4⟩,hb2⟩;obtain⟨N4,hN4⟩:∃N,(rep es key o).length=N:=⟨_,rfl⟩
  have hf:=zh (hend.out w2 a4 c4 N4 hN4 s4 hb2);rw[hN4];clear hend s4 hb2 hN4 h1;go_wp2;go_ret;exact hf.out
 | false=>
  have h1:=zh (Hcall.out 0 (by rw[hgo.out,if_neg (by rw[hI];decide)]));clear Hcall hgo hI hfl;go_wp2_with fail;refine h1.out.mono ?_;rintro e w2 ⟨v,rfl,⟨a4,c4,rfl,s4⟩,hb2⟩;obtain⟨N4,hN4⟩:∃N,(rep es key o).length=N:=⟨_,rfl⟩
  have hf:=zh (hend.out w2 a4 c4 N4 hN4 s4 hb2);rw[hN4];clear hend s4 hb2 hN4 h1;go_wp2;go_ret;exact hf.out
theorem yT {h:Nat}{lo hi:SB}(b:Nat)(t:Tr)(key:ByteArray)(a:Option Addr)(n c:Nat)(o:List En)(w:World)(hn:NdT w (h+1) lo hi b t)(hs:t.sz≤504)(hs3:3≤t.sz)(hi':ins lo hi key)
  (hes:CS w a o)
  (ih:∀(lo hi:SB) (b:Nat) (t:Tr) (w:World),NdT w h lo hi b t→t.sz≤504→(0<h→3≤t.sz)→ins lo hi key→CS w a o→Calls prog 91 #[pt b,.string key,.slice a n c] w fun e w'=>Mz w h lo hi t key o e w'):
  Calls prog 91 #[pt b,.string key,.slice a n c] w fun e w'=>Mz w (h+1) lo hi t key o e w':=by
 obtain⟨pg,ks,ps,ts,rfl,hbp,hr⟩:=hn;have hbr:=hbp.bran;simp only[Tr.sz] at hs hs3;have hle:=hr.len;have hfa:=hr.factsT;have hg:=Y5 hfa.2.2.2;have hkl:ks.length≤126:=by unfold T8 at hs;omega
 have hk1:1≤ks.length:=by
  cases ks with
  | nil=>unfold T8 kss at hs3;simp at hs3
  | cons x r=>simp
 have hway:=hr.good.way zU.facts hi';have hwl:=YT ks key;have hrep:rep (esL ts) key o=esL (ts.take (Qk ks key))++(rep (ta ts (Qk ks key)).es key o++esL (ts.drop (Qk ks key+1))):=by
  have hsplit:=z5b (ts:=ts) (i:=Qk ks key) (by omega)
  conv=>lhs;rw[hsplit,Qv,Qv,U4]
  exact y9c (by rw[Rq,List.map_take];exact hway.2.1) (by rw[Rq,List.map_drop];exact hway.2.2) _ o
 have hkid:X2 w h (lob lo ks (Qk ks key)) (hib hi ks (Qk ks key)) (na ps (Qk ks key)) (ta ts (Qk ks key)):=hr.kid hwl;have hkf:=hr.good.keys zU.facts;have Hrep:=zh hrep;have Hkid:=zh hkid;have Hin:=zh hway.1;have Hbr:=zh hbr;have Hr:=zh hr;have He:=zh hes;have Hs:=zh hs;have Hih:=zh ih;obtain⟨vk,vp,nb,⟨a0,c0,rfl,s0,_⟩,⟨a1,c1,rfl,s1,_⟩⟩:=hbr;obtain⟨g2,o2,rfl,hc2⟩:=s1.ptrs (by omega);have hil:=zh (Nx b _ _ _ _ _ w nb (by omega));have q1:=nb.c2;have Hnb:=zh nb;have Hway:=zh (z0g a0 ks.length c0 ks key w rfl s0.texts hkf (by omega));have Hpt:=zh (hc2 (Qk ks key) (by omega));have hwm:Qk ks key<ps.length:=by omega
 have hm1:ps.length≤127:=by omega
 have Hk1:=zh (zai hk1 hwl);have Hlt:Hid (Qk ks key<ts.length):=by show _<_;omega
 clear hbp nb s0 s1 hc2 hkid hway hwl hrep hkf hr hes hs ih hg hfa hle hs3 hkl hk1;generalize Qk ks key=A at*;generalize ps.length=m at*;obtain⟨n0,hn0⟩:∃n0,ks.length=n0:=⟨_,rfl⟩
 rw[hn0] at q1 Hway;clear hn0
 go_enter func91,ntmps91
 go_wp2_with fail;refine hil.out.mono ?_;rintro e w' ⟨rfl,rfl⟩;clear hil;go_wp2_with fail;refine Hway.out.mono ?_;rintro e w1 ⟨rfl,hb1⟩;have HB:=zh hb1;have q2:=(Hnb.out.ext hb1).c3;have q3:w1.cell? ⟨g2,o2+A,none⟩=some (pt (na ps A)):=by
  rw[hb1.cell (p:=⟨g2,o2+A,none⟩) (block_lt_of_cell Hpt.out)];exact Hpt.out
 obtain⟨hk1,hk2,hk3⟩:=Hkid.out;have Hcall:=zh (Hih.out _ _ (na ps A) (ta ts A) w1 (NdT.ext hb1 h hk1) hk3 (fun _=>by omega) Hin.out (He.out.below hb1 (zlr _)));clear hb1 hk1 q1 Hway;have i1:(0:Int)≤(A:Int):=by omega
 have i2:(A:Int)<(m:Int):=by omega
 generalize na ps A=pk at*;go_wp2_with fail;refine Hcall.out.mono ?_;rintro e w2 ⟨b2,t2,rfl,hn2,⟨he2,hp2,hf2⟩,hsz2,_,hb2⟩;have Hf2:=zh (zai he2 (zai hp2 hf2));replace HB:=zh (HB.out.trans (hb2.mono HB.out.size));have Hm:=zh (z7g b ks ps ts A b2 t2 t2.sz w2 (Hbr.out.ext HB.out) (Hr.out.mono (fun _ _ _ _ hg=>X2.ext HB.out hg)) Hk1.out.1 Hs.out Hk1.out.2 hn2 rfl (by omega));clear he2 hp2 hf2 Hcall hn2 hb2 hsz2 q2 q3;go_wp2_with fail;refine Hm.out.mono ?_;rintro e w3 ⟨b3,ks2,ps2,ts2,rfl,hbr3,hr3,⟨hfl3,hfr3⟩,hz1,hz2,hb3⟩;have Hfin:Hid (Mz w (h+1) lo hi (.bran pg ks ts) key o (.returned (pt b3)) w3):=by
  refine⟨b3,.bran 0 ks2 ts2,rfl,G8.2 ⟨0,ks2,ps2,ts2,rfl,hbr3,hr3⟩,⟨by simp only[Tr.es];rw[Hrep.out,hfl3,Hf2.out.1],rfl,?_⟩,by simp only[Tr.sz];omega,fun _=>⟨hz1,hz2⟩,HB.out.trans (hb3.mono HB.out.size)⟩;have f1:Fr [ta ts A] [t2] (0+2*h+1):=((Fr.kids (ta ts A)).trans Hf2.out.2.2).new Hf2.out.2.1;have f2:=((Fr.refl (ts.take A)).app (f1.app (Fr.refl (ts.drop (A+1))))).trans (hfr3 Hf2.out.2.1);rw[←z5b Hlt.out] at f2;exact f2.mono (by omega)
 clear hfr3 hbr3 hr3 hfl3 hz1 hz2 hb3 Hm;go_wp2;go_ret;exact Hfin.out
theorem C7:∀(h:Nat) {lo hi:SB} (b:Nat) (t:Tr) (key:ByteArray) (a:Option Addr) (n c:Nat) (o:List En) (w:World),NdT w h lo hi b t→t.sz≤504→(0<h→3≤t.sz)→ins lo hi key→x2x key o→(∀x∈o,okE x)→
  o.length=n→(a=none→c=0)→CS w a o→Calls prog 91 #[pt b,.string key,.slice a n c] w fun e w'=>Mz w h lo hi t key o e w'
 | 0,_,_,b,t,key,a,n,c,o,w,hn,hs,_,hi',ho,hoE,hno,hz,hes=>yS b t key a n c o w hn hs hi' ho hoE hno hes hz
 | h+1,_,_,b,t,key,a,n,c,o,w,hn,hs,hs3,hi',ho,hoE,hno,hz,hes=>yT b t key a n c o w hn hs (hs3 (by omega)) hi' hes (fun _ _ b t w h1 h2 h3 h4 h5=>C7 h b t key a n c o w h1 h2 h3 h4 ho hoE hno hz h5)
end Go.Proofs.YtdgladhfibfdlaaGreatDoor
