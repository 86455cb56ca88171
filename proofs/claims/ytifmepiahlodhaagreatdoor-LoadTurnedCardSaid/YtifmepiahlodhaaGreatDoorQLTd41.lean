/-
  Steps.
-/
import Derived.Test.YtifmepiahlodhaaGreatDoorQLTd40
namespace Go.Proofs.YtifmepiahlodhaaGreatDoor
open Go.RowKit
section
variable (PL:List (List Nat))
theorem q5s {v:ByteArray}{ch:List Nat}(hc:ChH (pgF PL) v ch)(hr:∀p∈ch,2≤p∧p<1024∧p<PL.length)(h1:∀p,ch.count p≤1):
  ∀(f i:Nat) (o:RO) (ps:List Nat),i≤ch.length→ch.length-i≤f→(∀p∈ch.drop i,o.u p=false)→
  ∃o1,ldV PL f o (z9c v i) ps ((na ch i:Nat):Int) ((v.size:Nat):Int)=some (o1,v,ps++ch.drop i):=by
 obtain⟨hn,hcc⟩:=hc;have hend:∀(f i:Nat) (o:RO) (ps:List Nat),i=ch.length→∃o1,ldV PL f o (z9c v i) ps ((na ch i:Nat):Int) ((v.size:Nat):Int)=some (o1,v,ps++ch.drop i):=fun f i o ps hin=>by
  have hz:na ch i=0:=y6y (by omega);refine⟨o,?_⟩;rw[hin] at hz⊢
  rw[hz,hn,x7z,←hn,List.drop_length,List.append_nil]
  cases f<;>(unfold ldV;rw[if_neg (by omega),if_pos (show((0:Nat):Int)=0 from rfl)])
 intro f
 induction f with
 | zero=>exact fun i o ps hi hf _=>hend 0 i o ps (by omega)
 | succ f ih=>
  intro i o ps hi hf hu
  rcases zng i ch.length with h|h
  ·have hm:=hr _ (z4d h);have hd:ch.drop i=na ch i::ch.drop (i+1):=by
    rw[List.drop_eq_getElem_cons h];simp[na,List.getD,h]
   have hi2:i<nP v.size:=by omega
   have hcut:=y80 hi2;have hi3:=y6o.1 hi2;have hnx:na ch (i+1)<1024∧(na ch (i+1)=0∨2≤na ch (i+1)):=by
    rcases Nat.lt_or_ge (i+1) ch.length with h3|h3
    ·have:=hr _ (z4d h3);exact⟨this.2.1,.inr this.1⟩
    ·rw[y6y h3];exact⟨by omega,.inl rfl⟩
   have hok:chOk ((na ch (i+1):Nat):Int) (cutS v i)=true:=by
    unfold chOk z6b z6c;rw[Bool.and_eq_true,Bool.and_eq_true,Bool.or_eq_true,Bool.and_eq_true];simp only[decide_eq_true_iff];omega
   obtain⟨b1,b2,b3⟩:=q2i (na ch (i+1)) (cutS v i) hok;have hu0:o.u (na ch i)=false:=hu _ (by rw[hd];simp);have hop:=z9s PL (o:=o) (p:=na ch i) (k:=3) (l:=beL (na ch (i+1)) 2++bn (cutS v i)) (hcc i h) (by omega) (by omega) (by rw[q0i];omega) hm.1 hm.2.2 hu0;have hne:∀p∈ch.drop (i+1),p≠na ch i:=fun p hp he=>by
    have h4:=h1 (na ch i);have e5:ch.count (na ch i)=(ch.take i).count (na ch i)+(ch.drop i).count (na ch i):=by rw[←List.count_append,List.take_append_drop]
    rw[hd,List.count_cons_self] at e5;have h6:0<(ch.drop (i+1)).count (na ch i):=List.count_pos_iff.2 (he▸hp);omega
   obtain⟨o1,g1⟩:=ih (i+1) ⟨o.l,uput o.u (na ch i),o.d⟩ (ps++[na ch i]) (by omega) (by omega) (fun p hp=>by
    show uput o.u (na ch i) p=false;unfold uput;rw[if_neg (hne p hp)];exact hu p (by rw[hd];exact List.mem_cons_of_mem _ hp))
   have hhs:(z9c v i).size=502*i:=by unfold z9c;rw[ByteArray.size_extract];omega
   refine⟨o1,?_⟩;unfold ldV;rw[if_pos (by omega),hop];simp only;rw[b1,b2,b3,if_pos ⟨trivial,rfl,by rw[y8z,hhs];omega⟩,x31 v i (by omega),hd];rw[List.append_assoc] at g1;exact g1
  ·exact hend (f+1) i o ps (by omega)
theorem x6j (s:Sp)(f:Nat)(hf:5≤f):
  ∀(es:List En) (o:RO),(∀e∈es,okE e∧CeL (pgF PL) e∧(∀p∈e.ch,2≤p∧p<1024∧p<PL.length)∧hasS s e.k=true)→(∀p,(chL es).count p≤1)→(∀p∈chL es,o.u p=false)→
  ∃o1,ldC PL f s (es.map cE) o=some (o1,es)
 | [],o,_,_,_=>⟨o,rfl⟩
 | e::r,o,hk,h1,hu=>by
  obtain⟨k1,k2,k3,k4⟩:=hk e (by simp);have hval:∃o2,ldE PL f (cE e) o=some (o2,e.v,e.ch):=by
   unfold ldE
   rcases k2 with ⟨h2,h3⟩|⟨h2,h3⟩
   ·refine⟨o,?_⟩;rw[cE_n,if_neg (by omega),h3];unfold cE;rw[if_neg (by omega)]
   ·have hsz:=k1.2;have hl5:e.ch.length≤5:=by rw[h3.1];unfold nP;omega
    obtain⟨o2,g1⟩:=q5s PL h3 k3 (fun p=>by have:=h1 p;rw[chL,List.count_append] at this;omega) f 0 o [] (by omega) (by omega) (fun p hp=>hu p (by rw[chL];exact List.mem_append_left _ hp));refine⟨o2,?_⟩;rw[cE_n,if_pos (by omega)];rw[x30] at g1;have e1:(cE e).p=((na e.ch 0:Nat):Int):=by unfold cE;rw[if_pos h2]
    rw[e1];exact g1
  obtain⟨o2,v1⟩:=hval;obtain⟨v4,_⟩:=z9t PL v1 (y9d k1 k2 (fun p hp=>⟨(k3 p hp).1,(k3 p hp).2.1⟩));have hdis:∀p,p∈chL r→¬0<e.ch.count p:=fun p hp he=>by
   have:=h1 p;rw[chL,List.count_append] at this;have a:=List.count_pos_iff.2 hp;omega
  obtain⟨o3,g1⟩:=x6j s f hf r ⟨o2.l++[⟨(cE e).k,e.v,[]⟩],o2.u,o2.d⟩ (fun x hx=>hk x (by simp[hx])) (fun p=>by have:=h1 p;rw[chL,List.count_append] at this;omega) (fun p hp=>by
   show o2.u p=false;rw[v4.1 p,hu p (by rw[chL];exact List.mem_append_right _ hp)];simp only[Bool.false_or,decide_eq_false_iff_not];exact hdis p hp)
  refine⟨o3,?_⟩;rw[List.map_cons];unfold ldC;rw[v1];simp only;rw[g1,cE_k,if_pos k4]
structure RdL (o:RO) (t:Tr):Prop where
 on:t.on (QH (pgF PL))
 pg:t.pg≠0
 ce:∀e∈t.es,CeL (pgF PL) e
 rg:∀p∈uT t,2≤p∧p<1024∧p<PL.length
 one:∀p,cU p t≤1
 fr:∀p∈uT t,o.u p=false
theorem x6k {h f:Nat}{ks:List ByteArray}{lo hi:SB}{ps:List Nat}{ts:List Tr}{s:Sp}{deep:Int}(hr:KRow (TGd h) ks lo hi ps ts)(hs:SpB s lo hi)(hd:1≤deep)
  (ih:∀(lo hi:SB) (t:Tr) (o:RO) (s:Sp) (deep:Int),TOk h lo hi t→t.sz≤504→126≤t.sz→RdL PL o t→SpB s lo hi→1≤deep→0≤o.d→(o.d=0∨o.d=deep+h)→∃o1,ldN PL f o ((t.pg:Nat):Int) s deep=some (o1,t)∧o1.d=deep+h)
  (hon:onL (QH (pgF PL)) ts) (hpg:∀t∈ts,t.pg≠0) (hce:∀e∈esL ts,CeL (pgF PL) e) (hrg:∀p∈uL ts,2≤p∧p<1024∧p<PL.length) (hone:∀p,cUL p ts≤1):
  ∀(t:Nat) (o:RO),t≤ts.length→(∀p∈uL (ts.drop (ts.length-t)),o.u p=false)→0≤o.d→(o.d=0∨o.d=deep+1+h)→
  ∃o1,ldK (ldN PL f) ks (ts.map pgI) s deep t o=some (o1,ts.drop (ts.length-t))∧(t=0→o1.d=o.d)∧(0<t→o1.d=deep+1+h)
 | 0,o,_,_,_,_=>⟨o,by unfold ldK;rw[Nat.sub_zero,List.drop_length],fun _=>rfl,fun h=>by omega⟩
 | t+1,o,ht,hu,h0,hod=>by
  have hlen:=hr.len;obtain⟨i,hix⟩:∃i,ts.length-(t+1)=i:=⟨_,rfl⟩
  have hit:ts.length-t=i+1:=by omega
  have hil:i<ts.length:=by omega
  rw[hix] at hu⊢
  obtain⟨u,hu0⟩:∃u,ta ts i=u:=⟨_,rfl⟩
  have hdrop:ts.drop i=u::ts.drop (i+1):=by rw[←hu0];exact y2t hil
  have hkid:TGd h (lob lo ks i) (hib hi ks i) (na ps i) u:=by rw[←hu0];exact hr.kid (d:=default) (by omega)
  have hmem:u∈ts:=by
   have:u∈ts.drop i:=by rw[hdrop];simp
   exact List.mem_of_mem_drop this
  have hsplit:∀p,cUL p ts=cUL p (ts.take i)+(cU p u+cUL p (ts.drop (i+1))):=fun p=>by
   rw[←z14,←hdrop,←x4h,List.take_append_drop]
  have hmu:∀p,p∈uT u→p∈uL ts:=fun p hp=>by
   rw[q0q] at hp;rw[z3e,hsplit p];omega
  have hes:∀e,e∈u.es→e∈esL ts:=fun e he=>by
   have e1:esL ts=esL (ts.take i)++(u.es++esL (ts.drop (i+1))):=by rw[←esL,←hdrop,←z2w,List.take_append_drop]
   rw[e1];simp[he]
  have hI:RdL PL o u:=⟨x4k hon u hmem,hpg u hmem,fun e he=>hce e (hes e he),fun p hp=>hrg p (hmu p hp),fun p=>by have:=hone p;rw[hsplit p] at this;omega,fun p hp=>hu p (by rw[hdrop,z5u];exact .inl hp)⟩
  obtain⟨o1,n1,n3⟩:=ih _ _ u o (z67 s ks i) (deep+1) hkid.1 hkid.2.2 hkid.2.1 hI (hs.part ks i) (by omega) h0 hod;obtain⟨_,hF,_⟩:=z6o PL f o _ _ (deep+1) o1 u h0 (by omega) n1;have hdis:∀p,p∈uL (ts.drop (i+1))→¬0<cU p u:=fun p hp he=>by
   have:=hone p;rw[hsplit p] at this;rw[z3e] at hp;omega
  obtain⟨o2,m1,m3,m4⟩:=x6k hr hs hd ih hon hpg hce hrg hone t o1 (by omega) (fun p hp=>by
   rw[hit] at hp;rw[hF.op.1 p,hu p (by rw[hdrop,z5u];exact .inr hp)];simp only[Bool.false_or,decide_eq_false_iff_not];exact hdis p hp) (by omega) (.inr (by rw[n3]))
  rw[hit] at m1;refine⟨o2,?_,fun h=>by omega,fun _=> ?_⟩
  ·unfold ldK;rw[List.length_map,hix];have hia:ia (ts.map pgI) i=((u.pg:Nat):Int):=by
    rw[y7j ts i hil];have:ts.getD i (.leaf 0 [])=u:=hu0;rw[this]
   have hkey:¬(i<ks.length∧hasS (lowS s ks i) (sa ks i)=false):=by
    rintro⟨h0,h1⟩;have h2:=hr.split (i:=i) h0;have a:=(TOk.facts h hkid.1).1;have b:=(TGd.row h2.2.2).facts (fun _ _ _ _ h=>h);have e1:hib hi ks i=some (sa ks i):=by unfold hib;rw[if_pos h0]
    rw[e1] at a;have h3:ins (lob lo ks i) hi (sa ks i):=by
     refine⟨?_,?_⟩
     ·cases h5:lob lo ks i with
      | none=>trivial
      | some x=>rw[h5] at a;exact z42 a
     ·cases hi with
      | none=>trivial
      | some x=>exact b.1
    have hsl:SpB (lowS s ks i) (lob lo ks i) hi:=by
     refine⟨?_,hs.2⟩;unfold lowS lob
     by_cases h5:i=0
     ·subst h5;exact hs.1
     ·rw[if_neg h5];simp only;rw[if_pos (by omega)]
    rw[hsl.has h3] at h1
    cases h1
   rw[if_neg hkey,hia,n1];simp only;rw[if_neg (by have:=hkid.2.1;omega),m1,hdrop]
  ·rcases Nat.eq_zero_or_pos t with h0|h0
   ·rw[m3 h0,n3]
   ·exact m4 h0
theorem x6l:
  ∀(h f:Nat) (lo hi:SB) (t:Tr) (o:RO) (s:Sp) (deep:Int),TOk h lo hi t→t.sz≤504→(1<deep→126≤t.sz)→(0<h→3≤t.sz)→(h=0→t.es≠[])→RdL PL o t→SpB s lo hi→h+6≤f→1≤deep→0≤o.d→(o.d=0∨o.d=deep+h)→∃o1,ldN PL f o ((t.pg:Nat):Int) s deep=some (o1,t)∧o1.d=deep+h
 | 0,f,lo,hi,t,o,s,deep,hk,hz,hz2,_,hne,hI,hs,hf,hd,h0,hod=>by
  obtain⟨pg,es,rfl,hlt,hsr,hok⟩:=hk;obtain⟨g,rfl⟩:∃g,f=g+1:=⟨f-1,by omega⟩
  have hne:=hne rfl;have hq:=hI.on;have hpg:=hI.pg;have hce:=hI.ce;rw[Tr.on] at hq;simp only[Tr.es] at hne hce;have hq0:=(hq hpg).1;have hp0:=hI.rg pg (q5d (.leaf pg es) hpg);have huE:∀p,p∈uT (.leaf pg es)↔p=pg∨p∈chL es:=fun p=>by
   unfold uT;have hpg':¬pg=0:=hpg;rw[Tr.pgs,Tr.es,if_neg hpg'];simp
  have hrg:∀p∈chL es,2≤p∧p<1024∧p<PL.length:=fun p hp=>hI.rg p ((huE p).2 (.inr hp))
  have hone:∀p,[pg].count p+(chL es).count p≤1:=fun p=>by
   have:=hI.one p;have hpg':¬pg=0:=hpg;rw[z9g,if_neg hpg'] at this;exact this
  have hchm:∀(es:List En) e,e∈es→∀p∈e.ch,p∈chL es:=by
   intro es
   induction es with
   | nil=>intro e he;cases he
   | cons a r ih=>
    intro e he p hp;rw[chL,List.mem_append]
    rcases List.mem_cons.1 he with rfl|he
    ·exact .inl hp
    ·exact .inr (ih e he p hp)
  have hall:∀e∈es,okE e∧CeL (pgF PL) e∧∀p∈e.ch,2≤p∧p<1024∧p<PL.length:=fun e he=>⟨(hok e he).1,hce e he,fun p hp=>hrg p (hchm es e he p hp)⟩
  have hall':∀e∈es,okE e∧CeL (pgF PL) e∧∀p∈e.ch,2≤p∧p<1024:=fun e he=>⟨(hall e he).1,(hall e he).2.1,fun p hp=>⟨((hall e he).2.2 p hp).1,((hall e he).2.2 p hp).2.1⟩⟩
  have hll:=y48 es hall';simp only[Tr.sz] at hz hz2;have hop:=z9s PL (o:=o) (p:=pg) (k:=1) (l:=z1z (es.map cE)) hq0 (by omega) (by omega) (by rw[hll];exact hz) hp0.1 hp0.2.2 (hI.fr pg ((huE pg).2 (.inl rfl)));have hdec:=x3c (x83 hall') (y9f hsr) (by rw[hll];exact hz);have hnin:∀p∈chL es,p≠pg:=fun p hp he=>by
   have:=hone p;rw[he] at this hp;have e2:([pg]:List Nat).count pg=1:=List.count_singleton_self;rw[e2] at this;have:=List.count_pos_iff.2 hp;omega
  obtain⟨o1,g1⟩:=x6j PL s g (by omega) es ⟨o.l,uput o.u pg,deep⟩ (fun e he=>⟨(hall e he).1,(hall e he).2.1,(hall e he).2.2,hs.has (hok e he).2⟩) (fun p=>by have:=hone p;omega) (fun p hp=>by
   show uput o.u pg p=false;unfold uput;rw[if_neg (hnin p hp)];exact hI.fr p ((huE p).2 (.inr hp)))
  have hd1:=(z4v PL g s (es.map cE) _ o1 es g1 (fun c hc=>by
   obtain⟨e,he,rfl⟩:=List.mem_map.1 hc;exact y9d (hall' e he).1 (hall' e he).2.1 (hall' e he).2.2)).2.2.2.1
  refine⟨o1,?_,by rw[hd1];simp⟩;unfold ldN;have e0:(Tr.leaf pg es).pg=pg:=rfl;rw[e0,hop];simp only;rw[if_pos trivial,if_neg (by
   unfold z4f
   rcases hod with h3|h3
   ·rw[if_pos h3];exact fun h=>h rfl
   ·rw[if_neg (by omega),h3];simp),hdec]
  simp only;rw[if_neg (fun h1=>hne (List.map_eq_nil_iff.1 h1)),g1];simp
 | h+1,f,lo,hi,t,o,s,deep,hk,hz,hz2,hz3,_,hI,hs,hf,hd,h0,hod=>by
  obtain⟨pg,ks,ps,ts,rfl,hr⟩:=hk;obtain⟨g,rfl⟩:∃g,f=g+1:=⟨f-1,by omega⟩
  have hq:=hI.on;have hpg:=hI.pg;have hpg':¬pg=0:=hpg;have hce:=hI.ce;rw[Tr.on] at hq;rw[Tr.es] at hce;obtain⟨hq0,hqk⟩:=hq.1 hpg';have hp0:=hI.rg pg (q5d (.bran pg ks ts) hpg);have huE:∀p,p∈uT (.bran pg ks ts)↔p=pg∨p∈uL ts:=fun p=>by
   unfold uT uL;rw[Tr.pgs,Tr.es,if_neg hpg'];simp
  have hrg:∀p∈uL ts,2≤p∧p<1024∧p<PL.length:=fun p hp=>hI.rg p ((huE p).2 (.inr hp))
  have hone:∀p,[pg].count p+cUL p ts≤1:=fun p=>by
   have:=hI.one p;rw[z5p,if_neg hpg'] at this;exact this
  have hlen2:=KRow.len hr;have hkf:z3j ks:=(TGd.row hr).keys (fun _ _ _ _ h=>h);simp only[Tr.sz] at hz hz2 hz3;have hz3:=hz3 (by omega);have hk1:1≤ks.length:=by
   cases ks with
   | nil=>unfold brSz kss at hz3;simp at hz3
   | cons x r=>simp
  have hpm:∀i,i<ts.length→ts.getD i (.leaf 0 [])∈ts:=fun i hi=>by
   rw[List.getD_eq_getElem?_getD,List.getElem?_eq_getElem hi];exact List.getElem_mem _
  have hpU:∀i,i<ts.length→(ts.getD i (.leaf 0 [])).pg∈uL ts:=fun i hi=>by
   have:=y9g ts i hi (hqk _ (hpm i hi));rw[z3e];unfold cUL;omega
  have hmay:mayF ks (ts.map pgI):=by
   refine⟨hkf,fun i hi=> ?_,hk1,by rw[List.length_map];exact hlen2.2⟩;rw[List.length_map] at hi;rw[y7j ts i hi];have h1:=hrg _ (hpU i hi);refine⟨by omega,fun j hj he=> ?_⟩;rw[y7j ts i hi,y7j ts j (by omega)] at he;have h2:=x5g ts j i hj hi (by omega) (hqk _ (hpm i hi));have h3:=hone (ts.getD i (.leaf 0 [])).pg;unfold cUL at h3;omega
  have hfl:(z2p ks (ts.map pgI)).length=brSz ks:=by rw[y1y hkf,y49]
  have hop:=z9s PL (o:=o) (p:=pg) (k:=2) (l:=z2p ks (ts.map pgI)) hq0 (by omega) (by omega) (by rw[hfl];exact hz) hp0.1 hp0.2.2 (hI.fr pg ((huE pg).2 (.inl rfl)));have hdec:=x0r hmay (by rw[hfl];exact hz);have hnin:∀p∈uL ts,p≠pg:=fun p hp he=>by
   have:=hone p;rw[he] at this hp;have e2:([pg]:List Nat).count pg=1:=List.count_singleton_self;rw[e2] at this;rw[z3e] at hp;omega
  obtain⟨o1,g1,_,g4⟩:=x6k PL (h:=h) (f:=g) hr hs hd (fun lo hi t o s deep a1 a2 a3 a4 a5 a6 a7 a8=>x6l h g lo hi t o s deep a1 a2 (fun _=>a3) (fun _=>by omega) (fun h0 h1=>by
   subst h0;obtain⟨pg2,es2,rfl,_⟩:=a1;simp only[Tr.es] at h1;subst h1;have e9:z0s []=1:=by decide
   simp only[Tr.sz] at a3;omega) a4 a5 (by omega) a6 a7 a8) hq.2 hqk hce hrg (fun p=>by have:=hone p;omega) ts.length ⟨o.l,uput o.u pg,o.d⟩ (zlr _) (fun p hp=>by
   rw[Nat.sub_self,List.drop_zero] at hp;show uput o.u pg p=false;unfold uput;rw[if_neg (hnin p hp)];exact hI.fr p ((huE p).2 (.inr hp))) h0 (by rcases hod with h1|h1;exact .inl h1;exact .inr (by rw[h1];omega))
  rw[Nat.sub_self,List.drop_zero] at g1;refine⟨o1,?_,by rw[g4 (by omega)];omega⟩;unfold ldN;have e0:(Tr.bran pg ks ts).pg=pg:=rfl;rw[e0,hop];simp only;rw[if_neg (by decide),if_pos trivial,hdec];simp only[List.length_map];rw[g1];simp
end
end Go.Proofs.YtifmepiahlodhaaGreatDoor
namespace Go.Proofs.YtifmepiahlodhaaGreatDoor
open Go Go.RowKit
abbrev RDG:TypeId:=105
def rdv (pv:Value)(u:Nat→Bool)(d:Int):Array Value:=(pv::((List.range 1024).map (fun k=>Value.bool (u k))++[.int .i64 d])).toArray
theorem z39 (pv:Value)(u:Nat→Bool)(d:Int):(rdv pv u d).size=1026:=by simp[rdv]
theorem x1j (pv:Value)(u:Nat→Bool)(d:Int):(rdv pv u d)[0]? =some pv:=by simp[rdv]
theorem x1k (pv:Value)(u:Nat→Bool)(d:Int)(k:Nat)(h:k<1024):(rdv pv u d)[1+k]? =some (.bool (u k)):=by
 unfold rdv;rw[List.getElem?_toArray,show 1+k=k+1 by omega,List.getElem?_cons_succ,List.getElem?_append_left (by simp;exact h)];simp[h]
theorem x9u (pv:Value)(u:Nat→Bool)(d:Int):(rdv pv u d)[1025]? =some (.int .i64 d):=by
 unfold rdv;rw[List.getElem?_toArray,List.getElem?_cons_succ,List.getElem?_append_right (by simp)];simp
theorem x6m {A:Array Value}{pv:Value}{u:Nat→Bool}{d:Int}(hs:A.size=1026)(h0:A[0]? =some pv)(hu:∀k,k<1024→A[1+k]? =some (.bool (u k)))(hd:A[1025]? =some (.int .i64 d)):A=rdv pv u d:=by
 apply Array.ext_getElem?;intro i
 rcases zng i 1026 with h|h
 ·by_cases h1:i=0
  ·subst h1;rw[h0,x1j]
  ·by_cases h2:i=1025
   ·subst h2;rw[hd,x9u]
   ·obtain⟨k,rfl⟩:∃k,i=1+k:=⟨i-1,by omega⟩
    rw[hu k (by omega),x1k _ _ _ k (by omega)]
 ·rw[Array.getElem?_eq_none (by omega),Array.getElem?_eq_none (by rw[z39];omega)]
theorem q3q (pv:Value)(u:Nat→Bool)(d:Int)(k:Nat)(h:k<1024):(rdv pv u d).setIfInBounds (1+k) (.bool true)=rdv pv (uput u k) d:=by
 refine x6m (by rw[Array.size_setIfInBounds,z39]) ?_ (fun j hj=> ?_) ?_
 ·rw[Array.getElem?_setIfInBounds,if_neg (by omega),x1j]
 ·rw[Array.getElem?_setIfInBounds,z39];unfold uput
  by_cases e:j=k
  ·subst e;rw[if_pos rfl,if_pos (by omega),if_pos rfl]
  ·rw[if_neg (by omega),x1k _ _ _ j hj,if_neg e]
 ·rw[Array.getElem?_setIfInBounds,if_neg (by omega),x9u]
theorem x9v (pv:Value)(u:Nat→Bool)(d d':Int):(rdv pv u d).setIfInBounds 1025 (.int .i64 d')=rdv pv u d':=by
 refine x6m (by rw[Array.size_setIfInBounds,z39]) ?_ (fun j hj=> ?_) ?_
 ·rw[Array.getElem?_setIfInBounds,if_neg (by omega),x1j]
 ·rw[Array.getElem?_setIfInBounds,if_neg (by omega),x1k _ _ _ j hj]
 ·rw[Array.getElem?_setIfInBounds,if_pos rfl,if_pos (by rw[z39];omega)]
section
variable {w:World} {gr:Nat} {pv:Value} {u:Nat→Bool} {d:Int}
theorem Blk.g0 (h:Blk w gr RDG (rdv pv u d)):w.cell? ⟨gr,0,none⟩=some pv:=by rw[h.cell,x1j]
theorem Blk.gu (h:Blk w gr RDG (rdv pv u d))(k:Nat)(hk:k<1024):w.cell? ⟨gr,1+k,none⟩=some (.bool (u k)):=by rw[h.cell,x1k _ _ _ k hk]
theorem Blk.gd (h:Blk w gr RDG (rdv pv u d)):w.cell? ⟨gr,1025,none⟩=some (.int .i64 d):=by rw[h.cell,x9u]
theorem Blk.gput (h:Blk w gr RDG (rdv pv u d))(k:Nat)(hk:k<1024):Blk (w.setCell ⟨gr,1+k,none⟩ (.bool true)) gr RDG (rdv pv (uput u k) d):=by rw[←q3q pv u d k hk];exact h.set _ _
theorem Blk.gdeep (h:Blk w gr RDG (rdv pv u d))(d':Int):Blk (w.setCell ⟨gr,1025,none⟩ (.int .i64 d')) gr RDG (rdv pv u d'):=by rw[←x9v pv u d d'];exact h.set _ _
end
def LdW (w:World)(gr:Nat)(a:Option Addr)(P:List (List Nat)):Prop:=∃w0,PgA w0 a P∧z0x w0∧Below w0.heap.size w0 w∧w0.heap.size≤gr
theorem LdW.turn {w w':World}{gr:Nat}{a:Option Addr}{P:List (List Nat)}(h:LdW w gr a P){F:Nat→Prop}(ht:Turn F w w')(hF:∀i,F i→gr≤i):LdW w' gr a P:=by
 obtain⟨w0,h1,h2,h3,h4⟩:=h;exact⟨w0,h1,h2,h3.trans (ht.below h3.size (fun i hi=>znt h4 (hF i hi))),h4⟩
theorem LdW.ext {w w':World}{gr:Nat}{a:Option Addr}{P:List (List Nat)}(h:LdW w gr a P)(hb:Below w.heap.size w w'):LdW w' gr a P:=h.turn (F:=fun _=>False) (q6a hb) (fun _ hf=>hf.elim)
theorem LdW.pg {w:World}{gr:Nat}{a:Option Addr}{P:List (List Nat)}(h:LdW w gr a P):PgA w a P:=by
 obtain⟨w0,h1,_,h3,_⟩:=h;exact h1.below h3 (zlr _)
theorem LdW.wo {w:World}{gr:Nat}{a:Option Addr}{P:List (List Nat)}(h:LdW w gr a P):z0x w:=by
 obtain⟨w0,_,h2,h3,_⟩:=h;exact h2.below h3
abbrev CP:List PanicEntry:=[{v:=.iface 96 (.int .i64 16),recovered:=false}]
theorem z4a (w:World):Calls Tryz.prog 41 #[.bool true] w fun e w'=>e=.returned (.tuple #[])∧w=w':=by
 go_enter Tryz.func41,Tryz.ntmps41
 go_wp2
 go_end0
 exact⟨rfl,rfl⟩
theorem z4b (w:World):Calls Tryz.prog 41 #[.bool false] w fun e w'=>e=.panicked CP∧w=w':=by
 go_enter Tryz.func41,Tryz.ntmps41
 go_wp2;exact⟨rfl,rfl,rfl⟩
def PgQ (w w':World)(gr:Nat)(pv:Value)(x:Option (RO×Nat×List Nat))(e:Ending):Prop:=match x with
 | none=>e=.panicked CP∧Turn (fun i=>i=gr) w w'
 | some (o1,k,b)=>∃v,e=.returned (.tuple #[.int .u8 (k:Nat),v])∧Sl w' v b∧Blk w' gr RDG (rdv pv o1.u o1.d)∧Turn (fun i=>i=gr) w w'
theorem PgA.atW {w:World}{a:Option Addr}{P:List (List Nat)}(h:PgA w a P){k:Nat}(hk:k<P.length):∃g o ad m cc,a=some ⟨g,o,none⟩∧w.cell? ⟨g,o+k,none⟩=some (.slice ad m cc)∧(P.getD k []).length=m∧Src w ad (P.getD k [])∧m≤cc∧cc≤9223372036854775807∧B8 (P.getD k []):=by
 obtain⟨g,o,v,ha,hc,hv⟩:=h k hk;obtain⟨ad,cc,rfl,hs,h1,h2⟩:=hv.ex;exact⟨g,o,ad,_,cc,ha,hc,rfl,hs,h1,h2,hv.b8⟩
set_option maxRecDepth 100000 in
theorem y5y (gr:Nat)(a:Option Addr)(n c:Nat)(P:List (List Nat))(o:RO)(x:Int)(w:World)(hn:P.length=n)(hn9:n≤1024)(hL:LdW w gr a P)(hB:Blk w gr RDG (rdv (.slice a n c) o.u o.d)):
  Calls Tryz.prog 98 #[.pointer (some ⟨gr,0,none⟩),.int .i64 x] w fun e w'=>PgQ w w' gr (.slice a n c) (z2x P o x) e:=by
 have c0:=hB.g0
 by_cases h2:x<2
 ·have e0:z2x P o x=none:=by unfold z2x;rw[if_pos (.inl h2)]
  rw[e0];have e1:decide ((2:Int)≤x)=false:=zdf (by omega);have Hm:=zh (z4b w);clear e0 h2
  go_enter Tryz.func98,Tryz.ntmps98
  go_wp2_with fail;refine Hm.out.mono ?_;rintro e w' ⟨rfl,rfl⟩;go_wp2;exact⟨rfl,rfl,Turn.refl _ _⟩
 obtain⟨k,rfl⟩:∃k:Nat,x=(k:Int):=⟨x.toNat,by omega⟩
 have e1:decide ((2:Int)≤(k:Int))=true:=zdt (by omega)
 by_cases hkn:n≤k
 ·have e0:z2x P o (k:Int)=none:=by unfold z2x;rw[if_pos (.inr (.inl (by omega)))]
  rw[e0];have e2:decide ((k:Int)<(n:Int))=false:=zdf (by omega);have e3:decide (k<n)=false:=zdf (by omega);have Hm:=zh (z4b w);clear e0 h2 hkn
  go_enter Tryz.func98,Tryz.ntmps98
  go_wp2_with fail;refine Hm.out.mono ?_;rintro e w' ⟨rfl,rfl⟩;go_wp2;exact⟨rfl,rfl,Turn.refl _ _⟩
 have hkn':k<n:=by omega
 have hk4:k<1024:=by omega
 have e2:decide ((k:Int)<(n:Int))=true:=zdt (by omega);have e3:decide (k<n)=true:=zdt hkn';have i1:(k:Int)<1024:=by omega
 have i2:(0:Int)≤(k:Int):=by omega
 have i3:(k:Int)<(n:Int):=by omega
 have c1:=hB.gu k hk4;have f1:=hB.fz (1+k)
 cases hu:o.u k with
 | true=>
  have e0:z2x P o (k:Int)=none:=by unfold z2x;rw[if_pos (.inr (.inr (by rw[Int.toNat_natCast];exact hu)))]
  rw[e0];rw[hu] at c1;have Hm:=zh (z4b w);clear e0 h2 hkn hu
  go_enter Tryz.func98,Tryz.ntmps98
  go_wp2_with fail;refine Hm.out.mono ?_;rintro e w' ⟨rfl,rfl⟩;go_wp2;exact⟨rfl,rfl,Turn.refl _ _⟩
 | false=>
  rw[hu] at c1;have e0:z2x P o (k:Int)=if (opS (P.getD k [])).2.2=0 then some (⟨o.l,uput o.u k,o.d⟩,(opS (P.getD k [])).1,(opS (P.getD k [])).2.1) else none:=by
   unfold z2x;rw[Int.toNat_natCast,if_neg (by rw[hu];intro h;rcases h with h|h|h<;>first|omega|cases h)]
  rw[e0];have Hm:=zh (z4a w);have hb2:=hB.gput k hk4;have t2:Turn (fun i=>i=gr) w (w.setCell ⟨gr,1+k,none⟩ (.bool true)):=(Turn.refl _ _).setCell _ (fun _=>rfl);have hL2:=hL.turn t2 (fun i hi=>by omega);obtain⟨W,hW⟩:∃W,w.setCell ⟨gr,1+k,none⟩ (.bool true)=W:=⟨_,rfl⟩
  rw[hW] at hb2 t2 hL2;obtain⟨g,o5,ad,m,cc,rfl,hcell,hm,hsrc,hmc,hcm,hb8⟩:=hL2.pg.atW (k:=k) (by omega);have q0:=hb2.g0;have HO:=zh (x8v ad m cc (P.getD k []) hm W hb8 hmc hcm hsrc hL2.wo);have HM0:=zh (fun w=>z4b w);have HM1:=zh (fun w=>z4a w);rw[←hW] at q0 hcell;have HW:=zh hW;have HB2:=zh hb2;have HT2:=zh t2;clear e0 h2 hkn hu hW hb2 t2 hL2 hm hsrc hmc hcm hb8 hL hB;generalize opS (P.getD k [])=Z at*;obtain⟨kd,ld,er⟩:=Z;dsimp only at HO⊢
  obtain⟨R,hR⟩:∃R,(if er=0 then some ((⟨o.l,uput o.u k,o.d⟩:RO),kd,ld) else none)=R:=⟨_,rfl⟩
  rw[hR];have HR:=zh hR;clear hR
  go_enter Tryz.func98,Tryz.ntmps98
  go_wp2_with fail;refine Hm.out.mono ?_;rintro e w' ⟨rfl,rfl⟩;go_wp2_with fail;rw[HW.out];refine HO.out.mono ?_;rintro e w5 ⟨v,rfl,hv,hb5⟩;have HT5:=zh (HT2.out.step (G:=fun _=>False) (q6a hb5) (fun _ hf _=>hf.elim));have HB5:=zh (HB2.out.ext hb5);have HV:=zh hv;clear hb5 hv q0 hcell
  by_cases h0:er=0
  ·subst h0;have HN1:=zh ((if_pos rfl).symm.trans HR.out);clear HR;rw[show errS 0=.nilIface from rfl];go_wp2_with fail;refine(HM1.out w5).mono ?_;rintro e w' ⟨rfl,rfl⟩;go_wp2
   go_ret2
   rw[←HN1.out];exact⟨v,rfl,HV.out,HB5.out,HT5.out⟩
  ·have HN1:=zh ((if_neg h0).symm.trans HR.out);clear HR;rw[show errS er=.iface 96 (.int .i64 er) by unfold errS;rw[if_neg h0]];clear h0;go_wp2_with fail;refine(HM0.out w5).mono ?_;rintro e w' ⟨rfl,rfl⟩;go_wp2;rw[←HN1.out];exact⟨rfl,rfl,HT5.out⟩
end Go.Proofs.YtifmepiahlodhaaGreatDoor
