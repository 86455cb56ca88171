/-
  Steps.
-/
import Derived.Test.YtdnfhjfbanhhcaaGreatDoorQLBk25
import Derived.Test.YtdnfhjfbanhhcaaGreatDoorQLBk22
namespace Go.Proofs.YtdnfhjfbanhhcaaGreatDoor
open Go.RowKit
section
variable (P:List (List Nat))
def Opn (o o1:RO)(c:Nat→Nat):Prop:=(∀p,o1.u p=(o.u p||decide (0<c p)))∧(∀p,0<c p→2≤p∧p<P.length∧o.u p=false)∧∀p,c p≤1
theorem Opn.refl (o:RO){c:Nat→Nat}(h:∀p,c p=0):Opn P o o c:=⟨fun p=>by rw[h p];simp,fun p hp=>by rw[h p] at hp;omega,fun p=>by rw[h p];omega⟩
theorem Opn.trans {o o1 o2:RO}{a b c:Nat→Nat}(h:Opn P o o1 a)(k:Opn P o1 o2 b)(hc:∀p,c p=a p+b p):Opn P o o2 c:=by
 refine⟨fun p=> ?_,fun p hp=> ?_,fun p=> ?_⟩
 ·rw[k.1 p,h.1 p,Bool.or_assoc,hc p]
  congr 1
  rw[Bool.eq_iff_iff,Bool.or_eq_true,decide_eq_true_iff,decide_eq_true_iff,decide_eq_true_iff];omega
 ·rw[hc p] at hp
  by_cases h1:0<a p
  ·exact h.2.1 p h1
  ·have h2:=k.2.1 p (by omega);refine⟨h2.1,h2.2.1,?_⟩;have h3:=h2.2.2;rw[h.1 p] at h3
   simpa using (Bool.or_eq_false_iff.1 h3).1
 ·rw[hc p];have h1:=h.2.2 p;have h2:=k.2.2 p
  rcases Nat.eq_zero_or_pos (b p) with h3|h3
  ·omega
  ·have h4:=(k.2.1 p h3).2.2;rw[h.1 p,Bool.or_eq_false_iff,decide_eq_false_iff_not] at h4;omega
theorem Opn.one {o:RO}{i:Int}{o1:RO}{k:Nat}{b:List Nat}(h:z3k P o i=some (o1,k,b)):Opn P o o1 (fun p=> [i.toNat].count p):=by
 obtain⟨h1,h2,h3,_,rfl,_⟩:=z2o P h;have hc:∀p,[i.toNat].count p=if p=i.toNat then 1 else 0:=fun p=>by
  rw[List.count_cons,List.count_nil]
  by_cases e:p=i.toNat
  ·subst e;simp
  ·rw[if_neg e,if_neg (by simpa using fun h=>e h.symm)]
 refine⟨fun p=> ?_,fun p hp=> ?_,fun p=> ?_⟩
 ·show uput o.u i.toNat p=(o.u p||decide (0< [i.toNat].count p))
  unfold uput;rw[hc p]
  by_cases e:p=i.toNat
  ·rw[if_pos e,if_pos e];simp
  ·rw[if_neg e,if_neg e];simp
 ·have hp:0< [i.toNat].count p:=hp;rw[hc p] at hp
  by_cases e:p=i.toNat
  ·subst e;exact⟨by omega,by omega,h3⟩
  ·rw[if_neg e] at hp;omega
 ·show[i.toNat].count p≤1;rw[hc p];split<;>omega
theorem y5g:∀(f:Nat) (o:RO) (s:ByteArray) (ps:List Nat) (page long:Int) (o1:RO) (v:ByteArray) (qs:List Nat),ldV P f o s ps page long=some (o1,v,qs)→(s.size:Int)≤long→
  ∃new:List Nat,qs=ps++new∧Opn P o o1 (fun p=>new.count p)∧o1.l=o.l∧o1.d=o.d∧(v.size:Int)=long∧(new.length:Int)+s.size≤long∧((s.size:Int)<long→0<new.length)
 | 0,o,s,ps,page,long,o1,v,qs,h,hs=>by
  unfold ldV at h;split at h
  ·cases h
  ·split at h
   ·cases h
    exact⟨[],by simp,Opn.refl P _ (fun _=>rfl),rfl,rfl,by omega,by simp;omega,fun h=>by omega⟩
   ·cases h
 | f+1,o,s,ps,page,long,o1,v,qs,h,hs=>by
  unfold ldV at h;split at h
  ·rename_i hlt
   split at h
   ·cases h
   ·rename_i o2 k b ho
    split at h
    ·rename_i hc
     have hsz:((s++dcV b).size:Int)≤long:=by rw[ByteArray.size_append];omega
     obtain⟨new,h1,h2,h3,h4,h5,h6,h7⟩:=y5g f o2 _ _ _ _ o1 v qs h hsz;have ho1:=Opn.one P ho;obtain⟨_,_,_,_,e,_⟩:=z2o P ho;refine⟨page.toNat::new,by rw[h1];simp,ho1.trans P h2 (fun p=> ?_),h3.trans (by rw[e]),h4.trans (by rw[e]),h5,?_,fun _=>by simp⟩
     ·rw[←List.count_append];rfl
     ·rw[ByteArray.size_append] at h6;simp only[List.length_cons];omega
    ·cases h
  ·split at h
   ·cases h
    exact⟨[],by simp,Opn.refl P _ (fun _=>rfl),rfl,rfl,by omega,by simp;omega,fun h=>by omega⟩
   ·cases h
theorem y5h {c:Ce}(h:mayB c=true):okK c.k=true∧0≤c.n∧c.n≤2048∧(c.n≤64→(c.v.size:Int)=c.n):=by
 refine⟨?_,y3y h,x2q h,fun h1=> ?_⟩
 ·unfold mayB at h;rw[Bool.and_eq_true] at h;exact h.1
 ·unfold mayB plB at h;rw[Bool.and_eq_true,Bool.and_eq_true,if_pos h1] at h;exact(of_decide_eq_true h.2.2).1
def EnL (e:En):Prop:=okE e∧((e.v.size≤64∧e.ch=[])∨(64<e.v.size∧0<e.ch.length))∧(∀p∈e.ch,2≤p∧p<P.length)∧e.ch.length≤2048
theorem z9u {f:Nat}{c:Ce}{o o1:RO}{v:ByteArray}{ps:List Nat}(h:ldE P f c o=some (o1,v,ps))(hm:mayB c=true):Opn P o o1 (fun p=>ps.count p)∧o1.l=o.l∧o1.d=o.d∧EnL P ⟨c.k,v,ps⟩∧(v.size:Int)=c.n:=by
 obtain⟨h1,h2,h3,h4⟩:=y5h hm;unfold ldE at h;split at h
 ·rename_i h64
  obtain⟨new,g1,g2,g3,g4,g5,g6,g7⟩:=y5g P f o _ _ _ _ o1 v ps h (by show((0:Nat):Int)≤_;omega);have e:ps=new:=by rw[g1];rfl
  subst e;have z:((ByteArray.empty.size:Nat):Int)=0:=rfl;rw[z] at g6 g7;refine⟨g2,g3,g4,⟨⟨h1,by show v.size≤2048;omega⟩,.inr ⟨by show 64<v.size;omega,g7 (by omega)⟩,fun p hp=> ?_,by show ps.length≤2048;omega⟩,g5⟩;have:=g2.2.1 p (List.count_pos_iff.2 hp);exact⟨this.1,this.2.1⟩
 ·rename_i h64
  cases h
  have:=h4 (by omega);exact⟨Opn.refl P _ (fun _=>rfl),rfl,rfl,⟨⟨h1,by show c.v.size≤2048;omega⟩,.inl ⟨by show c.v.size≤64;omega,rfl⟩,(fun p hp=>by cases hp),Nat.zero_le _⟩,this⟩
theorem z4x (f:Nat)(s:Sp):∀(cs:List Ce) (o o1:RO) (es:List En),ldC P f s cs o=some (o1,es)→(∀c∈cs,mayB c=true)→
  es.length=cs.length∧Opn P o o1 (fun p=>(chL es).count p)∧o1.l=o.l++bare es∧o1.d=o.d∧szs es=szC cs∧es.map En.k=cs.map Ce.k∧∀e∈es,EnL P e∧hasS s e.k=true
 | [],o,o1,es,h,_=>by
  unfold ldC at h
  cases h
  exact⟨rfl,Opn.refl P _ (fun _=>by simp[chL]),by simp[bare],rfl,rfl,rfl,fun e he=>by cases he⟩
 | c::r,o,o1,es,h,hm=>by
  unfold ldC at h;split at h
  ·rename_i hh
   split at h
   ·cases h
   ·rename_i o2 v ps he
    split at h
    ·cases h
    ·rename_i o3 es2 hr
     cases h
     obtain⟨a1,a2,a3,a4,a5⟩:=z9u P he (hm c (by simp));obtain⟨b1,b2,b3,b4,b5,b6,b7⟩:=z4x f s r _ o1 es2 hr (fun x hx=>hm x (by simp[hx]));refine⟨by simp[b1],a1.trans P b2 (fun p=> ?_),by rw[b3];simp[a2,bare,En.bare],b4.trans a3,?_,by simp[b6],fun e he=> ?_⟩
     ·rw[chL,List.count_append]
     ·have e1:szs (⟨c.k,v,ps⟩::es2)=szE ⟨c.k,v,ps⟩+szs es2:=by simp[szs]
      have e2:szC (c::r)=z32 c.k c.n+szC r:=by simp[szC]
      rw[e1,e2,b5];unfold szE;rw[a5]
     ·rcases List.mem_cons.1 he with rfl|he
      ·exact⟨a4,hh⟩
      ·exact b7 e he
  ·cases h
theorem q2y {cs:List Ce}(h:asc cs):∀i j,i<j→j<cs.length→blt (ca cs i).k (ca cs j).k=true:=by
 intro i j hij
 induction j with
 | zero=>omega
 | succ j ih=>
  intro hj;have h1:=h (j+1) (by omega) hj;rw[Nat.add_sub_cancel] at h1
  rcases zng i j with h2|h2
  ·have h3:=ih h2 (by omega);rw[z4h] at*;grind
  ·obtain rfl:i=j:=by omega
   exact h1
theorem q2z {cs:List Ce}{es:List En}(ha:asc cs)(hk:es.map En.k=cs.map Ce.k):srt es:=by
 have hl:es.length=cs.length:=by simpa using congrArg List.length hk
 refine List.pairwise_iff_getElem.2 fun i j hi hj hij=> ?_
 have h1:=q2y ha i j hij (by omega);have key:∀m (hm:m<es.length),es[m].k=(ca cs m).k:=fun m hm=>by
  have h2:(es.map En.k)[m]? =(cs.map Ce.k)[m]? :=by rw[hk]
  rw[List.getElem?_map,List.getElem?_map,List.getElem?_eq_getElem hm,List.getElem?_eq_getElem (by omega)] at h2;simp only[Option.map_some,Option.some.injEq] at h2;rw[h2];unfold ca;simp[List.getD,show m<cs.length by omega]
 rw[key i hi,key j hj];exact h1
end
end Go.Proofs.YtdnfhjfbanhhcaaGreatDoor
namespace Go.Proofs.YtdnfhjfbanhhcaaGreatDoor
open Go.RowKit
section
variable (P:List (List Nat))
theorem y9c {b:List Nat}(h:dcE b=0):1≤(dcV b).size∧(dcV b).size≤502:=by
 unfold dcE at h;split at h
 ·rename_i hk
  unfold dcV;rw[if_pos hk,z8k,zld];unfold dcOk at hk;rw[Bool.and_eq_true] at hk;have h1:=hk.1;unfold z6l at h1;simp at h1;omega
 ·omega
theorem x8v (f:Nat)(o:RO)(s:ByteArray)(ps:List Nat){page long:Int}(h:¬(s.size:Int)<long)(hp:page≠0):ldV P f o s ps page long=none:=by
 cases f<;>(unfold ldV;rw[if_neg h,if_neg hp])
theorem y5i {es:List En}{cs:List Ce}{b:List Nat}(h1:es.length=cs.length)(h2:szs es=szC cs)(h3:b.length=vs cs.length+szC cs):z0s es=b.length:=by
 unfold z0s;rw[h1,h2,h3]
end
end Go.Proofs.YtdnfhjfbanhhcaaGreatDoor
namespace Go.Proofs.YtdnfhjfbanhhcaaGreatDoor
open Go.RowKit
section
variable (P:List (List Nat))
structure LdF (o o1:RO) (t:Tr) (deep:Int) (h:Nat):Prop where
 op:Opn P o o1 (fun p=>cU p t)
 l:o1.l=o.l++bare t.es
 d:o1.d=deep+h
 d0:o.d=0∨o.d=o1.d
 sz:t.sz≤504
 sz3:0<h→3≤t.sz
 ne:t.es≠[]
 en:∀e∈t.es,EnL P e
 nd:t.need=0
 pg:2≤t.pg∧t.pg<P.length
theorem y5j {rp:RO→Int→Sp→Int→Option (RO×Tr)}{ks:List ByteArray}{ps:List Int}{s:Sp}{deep:Int}(hd:1≤deep)
  (ih:∀o p s o1 t,0≤o.d→rp o p s (deep+1)=some (o1,t)→∃h,LdF P o o1 t (deep+1) h∧(t.pg:Int)=p):
  ∀(t:Nat) (o o1:RO) (ts:List Tr),0≤o.d→ldK rp ks ps s deep t o=some (o1,ts)→
   Opn P o o1 (fun p=>cUL p ts)∧o1.l=o.l++bare (esL ts)∧(0<t→∃h:Nat,o1.d=deep+1+h)∧(o.d=0∨o.d=o1.d)∧(t=0→o1.d=o.d)∧(0<t→esL ts≠[])∧(∀e∈esL ts,EnL P e)∧z0f ts=0∧ts.length=t∧(∀x∈ts,126≤x.sz∧x.sz≤504)
 | 0,o,o1,ts,h0,h=>by
  unfold ldK at h
  cases h
  exact⟨Opn.refl P _ (fun p=>z5t p),by simp[esL,bare],fun h=>by omega,.inr rfl,fun _=>rfl,fun h=>by omega,(fun e he=>by cases he),rfl,rfl,(fun x hx=>by cases hx)⟩
 | t+1,o,o1,ts,h0,h=>by
  unfold ldK at h;split at h
  ·cases h
  ·split at h
   ·cases h
   ·rename_i o2 tr h2
    split at h
    ·cases h
    ·rename_i hz
     split at h
     ·cases h
     ·rename_i o3 ts2 h3
      cases h
      obtain⟨hh,hF,_⟩:=ih _ _ _ _ _ h0 h2;have hd2:0≤o2.d:=by rw[hF.d];omega
      obtain⟨a1,a2,a3,a4,a5,a6,a7,a8,a9,a10⟩:=y5j hd ih t o2 o1 ts2 hd2 h3;have hdd:o1.d=o2.d:=by
       rcases a4 with h4|h4
       ·rw[hF.d] at h4;omega
       ·exact h4.symm
      refine⟨hF.op.trans P a1 (fun p=>by rw[z2r]),?_,fun _=>⟨hh,hdd.trans hF.d⟩,?_,fun h=>by omega,fun _=> ?_,fun e he=> ?_,?_,by simp[a9],fun x hx=> ?_⟩
      ·rw[a2,hF.l,esL,z6i,List.append_assoc]
      ·rw[hdd];exact hF.d0
      ·rw[esL];have:=hF.ne;intro h;exact this (List.append_eq_nil_iff.1 h).1
      ·rw[esL] at he
       rcases List.mem_append.1 he with he|he
       ·exact hF.en e he
       ·exact a7 e he
      ·rw[z0f,hF.nd,a8]
      ·rcases List.mem_cons.1 hx with rfl|hx
       ·exact⟨by omega,hF.sz⟩
       ·exact a10 x hx
theorem z6u:∀(f:Nat) (o:RO) (page:Int) (s:Sp) (deep:Int) (o1:RO) (t:Tr),0≤o.d→1≤deep→ldN P f o page s deep=some (o1,t)→∃h,LdF P o o1 t deep h∧(t.pg:Int)=page
 | 0,o,page,s,deep,o1,t,_,_,h=>by unfold ldN at h;cases h
 | f+1,o,page,s,deep,o1,t,h0,hd,h=>by
  unfold ldN at h;split at h
  ·cases h
  ·rename_i o2 k b ho
   have hop:=Opn.one P ho;obtain⟨g1,g2,g3⟩:=z45 P ho;obtain⟨p1,p2,_⟩:=z2o P ho;have hpz:¬page.toNat=0:=by omega
   split at h
   ·split at h
    ·cases h
    ·rename_i hdp
     split at h
     ·cases h
     ·rename_i cs hcs
      split at h
      ·cases h
      ·rename_i hn
       split at h
       ·cases h
       ·rename_i o3 es hc
        cases h
        obtain⟨c1,c2,c3,c4⟩:=z46 hcs;obtain⟨d1,d2,d3,d4,d5,d6,d7⟩:=z4x P f s cs _ o1 es hc c2;have hen:∀e∈es,EnL P e:=fun e he=>(d7 e he).1
        refine⟨0,⟨?_,?_,?_,?_,?_,fun h=>by omega,?_,hen,?_,⟨by show 2≤page.toNat;omega,by show page.toNat<_;omega⟩⟩,by show((page.toNat:Nat):Int)=page;omega⟩
        ·have h2:Opn P o2 o1 (fun p=>(chL es).count p):=⟨d2.1,d2.2.1,d2.2.2⟩
         exact hop.trans P h2 (fun p=>by rw[y2h,if_neg hpz])
        ·rw[d3];show o2.l++_=_;rw[g2];rfl
        ·rw[d4];show deep=_;omega
        ·rw[d4];show o.d=0∨o.d=deep;have:z4g o2.d deep=deep:=Decidable.not_not.1 hdp;unfold z4g at this;rw[g3] at this;split at this
         ·exact .inl (by assumption)
         ·exact .inr this
        ·show z0s es≤504;rw[y5i d1 d5 c1];exact c4
        ·intro e;have e:es=[]:=e;exact hn (List.eq_nil_of_length_eq_zero (by rw[←d1,e];rfl))
        ·rw[Tr.need,if_neg hpz]
   ·split at h
    ·split at h
     ·cases h
     ·split at h
      ·cases h
      ·rename_i _ ks ps hfs _ o3 ts hk
       cases h
       obtain⟨c1,c2,c3⟩:=z9g hfs;obtain⟨a1,a2,a3,a4,a5,a6,a7,a8,a9,a10⟩:=y5j P hd (fun o p s o1 t a b=>z6u f o p s (deep+1) o1 t a (by omega) b) _ o2 o1 ts (by rw[g3];exact h0) hk;have hpl:0<ps.length:=by rw[c2.2.2.2];omega
       obtain⟨hh,hd1⟩:=a3 hpl;refine⟨hh+1,⟨?_,?_,?_,?_,?_,fun _=> ?_,?_,?_,?_,⟨by show 2≤page.toNat;omega,by show page.toNat<_;omega⟩⟩,by show((page.toNat:Nat):Int)=page;omega⟩
       ·exact hop.trans P a1 (fun p=>by rw[z7i,if_neg hpz])
       ·rw[a2,g2];rw[Tr.es]
       ·rw[hd1];omega
       ·rw[←g3];exact a4
       ·show brSz ks≤504;rw[←c1];exact c3
       ·show 3≤brSz ks;have:=c2.2.2.1;unfold brSz kss
        cases ks with
        | nil=>simp at this
        | cons k r=>simp only[List.map_cons,List.sum_cons];omega
       ·rw[Tr.es];exact a6 hpl
       ·rw[Tr.es];exact a7
       ·rw[Tr.need,if_neg hpz]
    ·cases h
end
end Go.Proofs.YtdnfhjfbanhhcaaGreatDoor
namespace Go.Proofs.YtdnfhjfbanhhcaaGreatDoor
open Go Go.RowKit
def z38 (w:World)(h:Nat)(lo hi:SB)(t:Tr)(key:ByteArray)(o:List En)(e:Ending)(w':World):Prop:=
 ∃b2 t2,e=.returned (pt b2)∧NdT w' h lo hi b2 t2∧(t2.es=rep t.es key o∧t2.pg=0∧Fr t.kids t2.kids (2*h))∧t2.sz≤t.sz+107∧(0<h→t2.sz≤t.sz+43∧t.sz≤t2.sz+43)∧Below w.heap.size w w'
set_option maxRecDepth 100000 in
theorem y2v {lo hi:SB}(b:Nat)(t:Tr)(key:ByteArray)(a:Option Addr)(n c:Nat)(o:List En)(w:World)(hn:NdT w 0 lo hi b t)(hs:t.sz≤504)(hi':ins lo hi key)(ho:oneO key o)(hoE:∀x∈o,okE x)
  (hno:o.length=n) (hes:CS w a o) (hz:a=none→c=0):
  Calls Tryz.prog 77 #[pt b,.string key,.slice a n c] w fun e w'=>z38 w 0 lo hi t key o e w':=by
 obtain⟨pg,es,rfl,⟨vc,np,a0,c0,rfl,s0,z0,hnc,hcm⟩,hlt,hsr,hok⟩:=hn;have nb:=np.nb;simp only[Tr.sz] at hs;obtain⟨s,hsz⟩:∃s,s=z0s es:=⟨_,rfl⟩
 rw[←hsz] at hs;have g1:=z1i (fun x hx=>(hok x hx).1);have hvp:=z3n es.length;have hel:es.length≤200:=by unfold z0s at hsz;omega
 have hn1:n≤1:=by rcases ho with rfl|⟨v,rfl⟩<;>simp at hno<;>omega
 have q0:=nb.c1;have hil:=zh (z3v b _ _ w nb);have Hfd:=zh (y4w a0 es.length c0 es key w rfl s0 hsr (by omega));have Hnb:=zh nb;have HS:=zh (zai s0 (zai z0 (zai hnc hcm)));have HO:=zh (zai hes (zai hz hno));have hfl:=y18 es key
 --what is there in the end
 have hfin:Hid (∀(w':World) (b2:Nat),y0b w' b2 0 (rep es key o)→Below w.heap.size w w'→z38 w 0 lo hi (.leaf pg es) key o (.returned (pt b2)) w'):=fun w' b2 hl hb=>by
  have hr:∀x∈rep es key o,okE x∧ins lo hi x.k:=fun x hx=>by
   rcases x3j hx with h1|h1
   ·exact hok x h1
   ·refine⟨hoE x h1,?_⟩
    rcases ho with rfl|⟨v,rfl⟩
    ·cases h1
    ·simp only[List.mem_singleton] at h1;subst h1;exact hi'
  refine⟨b2,.leaf 0 (rep es key o),rfl,⟨0,_,rfl,hl,hlt,q2a hsr ho,hr⟩,⟨by simp only[Tr.es],rfl,Fr.refl _⟩,?_,fun h=>by omega,hb⟩;have hsum:szs es=szs (es.take (fE es key))+szs (es.drop (fE es key)):=by rw[←z7d,List.take_append_drop]
  have hsum2:szs (es.drop (fE es key))=szs ((es.drop (fE es key)).take (z12 es key))+szs (es.drop (fE es key+z12 es key)):=by
   rw[←z7d,←List.drop_drop,List.take_append_drop]
  have hso:szs o≤106:=by
   have:=(z1i hoE).2;rw[hno] at this;omega
  have e1:szs (rep es key o)=szs (es.take (fE es key))+(szs o+szs (es.drop (fE es key+z12 es key))):=by unfold rep;rw[z7d,z7d]
  have hv:vs (rep es key o).length≤2:=z7u 2 _ (by have:=z7c es key o;omega) (by omega);have e2:z0s (rep es key o)=vs (rep es key o).length+szs (rep es key o):=rfl;simp only[Tr.sz];rw[←hsz];unfold z0s at hsz;omega
 have hrep:Hid (rep es key o=es.take (fE es key)++(o++es.drop (fE es key+z12 es key))):=rfl;have hgo:Hid (z12 es key=if isE es key=true then 1 else 0):=rfl;obtain⟨N,hN⟩:∃N,es.length=N:=⟨_,rfl⟩
 have HN:=zh hN;rw[hN] at q0 Hfd hfl hel HS Hnb;clear np nb s0 z0 hnc hcm hes hz hno hsr hok hsz hoE ho g1 hN hlt hvp hs;generalize fE es key=F at*;generalize z12 es key=Gn at*
 go_enter Tryz.func77,Tryz.ntmps77
 go_wp2_with fail;refine hil.out.mono ?_;rintro e w' ⟨rfl,rfl⟩;clear hil;go_wp2_with fail;refine Hfd.out.mono ?_;rintro e w1 ⟨rfl,hb1⟩;have HB:=zh hb1;have q1:=(Hnb.out.ext hb1).c1;clear Hfd hb1 q0;have Hcall:∀G:Nat,G=Gn→Hid (Calls Tryz.prog 111 #[.slice a0 N c0,.int .i64 F,.int .i64 G,.slice a n c] w1 fun e w'=>∃v,e=.returned v∧CV w' v (rep es key o)∧Below w1.heap.size w1 w'):=fun G hG=>by
  rw[hrep.out,←hG];exact x8d a0 N c0 es F G a n c o w1 HN.out (HS.out.1.below HB.out (zlr _)) HS.out.2.2.1 HS.out.2.2.2 HS.out.2.1 (by omega) HO.out.2.2 HO.out.2.1 (HO.out.1.below HB.out (zlr _)) (by omega) (by omega)
 have hend:Hid (∀(w2:World) (a4:Option Addr) (c4 N4:Nat),(rep es key o).length=N4→CS w2 a4 (rep es key o)∧(a4=none→c4=0)∧(rep es key o).length≤c4∧c4≤maxLen→Below w1.heap.size w1 w2→z38 w 0 lo hi (.leaf pg es) key o (.returned (pt w2.heap.size)) (w2.alloc (.cells #[.int .i64 0,.slice a4 N4 c4,nilS,nilS] NT))):=fun w2 a4 c4 N4 h1 h2 h3=>by
  have h4:Below w2.heap.size w2 (w2.alloc (.cells #[.int .i64 0,.slice a4 N4 c4,nilS,nilS] NT)):=(zbr _ _).alloc (zlr _) _;have h5:=HB.out.trans (h3.mono HB.out.size);exact hfin.out _ _ ⟨_,NP.new _ 0 _ _ _,a4,c4,by rw[h1],h2.1.below h4 (zlr _),h2.2⟩ (h5.trans (h4.mono h5.size))
 have Hcall:=zh Hcall;clear hfin hrep HS HO HB Hnb HN
 cases hI:isE es key with
 | true=>
  have h1:=zh (Hcall.out 1 (by rw[hgo.out,if_pos hI]));clear Hcall hgo hI hfl;go_wp2_with fail;refine h1.out.mono ?_;rintro e w2 ⟨v,rfl,⟨a4,c4,rfl,s4⟩,hb2⟩;obtain⟨N4,hN4⟩:∃N,(rep es key o).length=N:=⟨_,rfl⟩
  have hf:=zh (hend.out w2 a4 c4 N4 hN4 s4 hb2);rw[hN4];clear hend s4 hb2 hN4 h1;go_wp2;go_ret;exact hf.out
 | false=>
  have h1:=zh (Hcall.out 0 (by rw[hgo.out,if_neg (by rw[hI];decide)]));clear Hcall hgo hI hfl;go_wp2_with fail;refine h1.out.mono ?_;rintro e w2 ⟨v,rfl,⟨a4,c4,rfl,s4⟩,hb2⟩;obtain⟨N4,hN4⟩:∃N,(rep es key o).length=N:=⟨_,rfl⟩
  have hf:=zh (hend.out w2 a4 c4 N4 hN4 s4 hb2);rw[hN4];clear hend s4 hb2 hN4 h1;go_wp2;go_ret;exact hf.out
set_option maxRecDepth 100000 in
theorem y2w {h:Nat}{lo hi:SB}(b:Nat)(t:Tr)(key:ByteArray)(a:Option Addr)(n c:Nat)(o:List En)(w:World)(hn:NdT w (h+1) lo hi b t)(hs:t.sz≤504)(hs3:3≤t.sz)(hi':ins lo hi key)
  (hes:CS w a o)
  (ih:∀(lo hi:SB) (b:Nat) (t:Tr) (w:World),NdT w h lo hi b t→t.sz≤504→(0<h→3≤t.sz)→ins lo hi key→CS w a o→Calls Tryz.prog 77 #[pt b,.string key,.slice a n c] w fun e w'=>z38 w h lo hi t key o e w'):
  Calls Tryz.prog 77 #[pt b,.string key,.slice a n c] w fun e w'=>z38 w (h+1) lo hi t key o e w':=by
 obtain⟨pg,ks,ps,ts,rfl,hbp,hr⟩:=hn;have hbr:=hbp.bran;simp only[Tr.sz] at hs hs3;have hle:=hr.len;have hfa:=hr.factsT;have hg:=z0u hfa.2.2.2;have hkl:ks.length≤126:=by unfold brSz at hs;omega
 have hk1:1≤ks.length:=by
  cases ks with
  | nil=>unfold brSz kss at hs3;simp at hs3
  | cons x r=>simp
 have hway:=hr.good.way Good.facts hi';have hwl:=z9c ks key;have hrep:rep (esL ts) key o=esL (ts.take (wayS ks key))++(rep (ta ts (wayS ks key)).es key o++esL (ts.drop (wayS ks key+1))):=by
  have hsplit:=y87 (ts:=ts) (i:=wayS ks key) (by omega)
  conv=>lhs;rw[hsplit,z2x,z2x,z1s]
  exact q19 (by rw[z2i,List.map_take];exact hway.2.1) (by rw[z2i,List.map_drop];exact hway.2.2) _ o
 have hkid:z09 w h (lob lo ks (wayS ks key)) (hib hi ks (wayS ks key)) (na ps (wayS ks key)) (ta ts (wayS ks key)):=hr.kid hwl;have hkf:=hr.good.keys Good.facts;have Hrep:=zh hrep;have Hkid:=zh hkid;have Hin:=zh hway.1;have Hbr:=zh hbr;have Hr:=zh hr;have He:=zh hes;have Hs:=zh hs;have Hih:=zh ih;obtain⟨vk,vp,nb,⟨a0,c0,rfl,s0,_⟩,⟨a1,c1,rfl,s1,_⟩⟩:=hbr;obtain⟨g2,o2,rfl,hc2⟩:=s1.ptrs (by omega);have hil:=zh (z3w b _ _ _ _ _ w nb (by omega));have q1:=nb.c2;have Hnb:=zh nb;have Hway:=zh (y4t a0 ks.length c0 ks key w rfl s0.texts hkf (by omega));have Hpt:=zh (hc2 (wayS ks key) (by omega));have hwm:wayS ks key<ps.length:=by omega
 have hm1:ps.length≤127:=by omega
 have Hk1:=zh (zai hk1 hwl);have Hlt:Hid (wayS ks key<ts.length):=by show _<_;omega
 clear hbp nb s0 s1 hc2 hkid hway hwl hrep hkf hr hes hs ih hg hfa hle hs3 hkl hk1;generalize wayS ks key=A at*;generalize ps.length=m at*;obtain⟨n0,hn0⟩:∃n0,ks.length=n0:=⟨_,rfl⟩
 rw[hn0] at q1 Hway;clear hn0
 go_enter Tryz.func77,Tryz.ntmps77
 go_wp2_with fail;refine hil.out.mono ?_;rintro e w' ⟨rfl,rfl⟩;clear hil;go_wp2_with fail;refine Hway.out.mono ?_;rintro e w1 ⟨rfl,hb1⟩;have HB:=zh hb1;have q2:=(Hnb.out.ext hb1).c3;have q3:w1.cell? ⟨g2,o2+A,none⟩=some (pt (na ps A)):=by
  rw[hb1.cell (p:=⟨g2,o2+A,none⟩) (block_lt_of_cell Hpt.out)];exact Hpt.out
 obtain⟨hk1,hk2,hk3⟩:=Hkid.out;have Hcall:=zh (Hih.out _ _ (na ps A) (ta ts A) w1 (NdT.ext hb1 h hk1) hk3 (fun _=>by omega) Hin.out (He.out.below hb1 (zlr _)));clear hb1 hk1 q1 Hway;have i1:(0:Int)≤(A:Int):=by omega
 have i2:(A:Int)<(m:Int):=by omega
 generalize na ps A=pk at*;go_wp2_with fail;refine Hcall.out.mono ?_;rintro e w2 ⟨b2,t2,rfl,hn2,⟨he2,hp2,hf2⟩,hsz2,_,hb2⟩;have Hf2:=zh (zai he2 (zai hp2 hf2));replace HB:=zh (HB.out.trans (hb2.mono HB.out.size));have Hm:=zh (x04 b ks ps ts A b2 t2 t2.sz w2 (Hbr.out.ext HB.out) (Hr.out.mono (fun _ _ _ _ hg=>z09.ext HB.out hg)) Hk1.out.1 Hs.out Hk1.out.2 hn2 rfl (by omega));clear he2 hp2 hf2 Hcall hn2 hb2 hsz2 q2 q3;go_wp2_with fail;refine Hm.out.mono ?_;rintro e w3 ⟨b3,ks2,ps2,ts2,rfl,hbr3,hr3,⟨hfl3,hfr3⟩,hz1,hz2,hb3⟩;have Hfin:Hid (z38 w (h+1) lo hi (.bran pg ks ts) key o (.returned (pt b3)) w3):=by
  refine⟨b3,.bran 0 ks2 ts2,rfl,z6m.2 ⟨0,ks2,ps2,ts2,rfl,hbr3,hr3⟩,⟨by simp only[Tr.es];rw[Hrep.out,hfl3,Hf2.out.1],rfl,?_⟩,by simp only[Tr.sz];omega,fun _=>⟨hz1,hz2⟩,HB.out.trans (hb3.mono HB.out.size)⟩;have f1:Fr [ta ts A] [t2] (0+2*h+1):=((Fr.kids (ta ts A)).trans Hf2.out.2.2).new Hf2.out.2.1;have f2:=((Fr.refl (ts.take A)).app (f1.app (Fr.refl (ts.drop (A+1))))).trans (hfr3 Hf2.out.2.1);rw[←y87 Hlt.out] at f2;exact f2.mono (by omega)
 clear hfr3 hbr3 hr3 hfl3 hz1 hz2 hb3 Hm;go_wp2;go_ret;exact Hfin.out
theorem z78:∀(h:Nat) {lo hi:SB} (b:Nat) (t:Tr) (key:ByteArray) (a:Option Addr) (n c:Nat) (o:List En) (w:World),NdT w h lo hi b t→t.sz≤504→(0<h→3≤t.sz)→ins lo hi key→oneO key o→(∀x∈o,okE x)→
  o.length=n→(a=none→c=0)→CS w a o→Calls Tryz.prog 77 #[pt b,.string key,.slice a n c] w fun e w'=>z38 w h lo hi t key o e w'
 | 0,_,_,b,t,key,a,n,c,o,w,hn,hs,_,hi',ho,hoE,hno,hz,hes=>y2v b t key a n c o w hn hs hi' ho hoE hno hes hz
 | h+1,_,_,b,t,key,a,n,c,o,w,hn,hs,hs3,hi',ho,hoE,hno,hz,hes=>y2w b t key a n c o w hn hs (hs3 (by omega)) hi' hes (fun _ _ b t w h1 h2 h3 h4 h5=>z78 h b t key a n c o w h1 h2 h3 h4 ho hoE hno hz h5)
end Go.Proofs.YtdnfhjfbanhhcaaGreatDoor
namespace Go.Proofs.YtdnfhjfbanhhcaaGreatDoor
open Go Go.RowKit Go.Shelf
theorem x05 (k v:ByteArray)(n p:Int)(w:World):Calls Tryz.prog 117 #[.agg #[.string k,.string v,.int .i64 n,.int .i64 p]] w fun e w'=>e=.returned (.bool (!mayB ⟨k,v,n,p⟩))∧Below w.heap.size w w':=by
 have hb0:Below w.heap.size w (w.alloc (.cells #[.string k,.string v,.int .i64 n,.int .i64 p] CT)):=(zbr _ _).alloc (zlr _) _;have hb:=zh hb0;have hc:=zh (z6p k v n p (w.alloc (.cells #[.string k,.string v,.int .i64 n,.int .i64 p] CT)));clear hb0;generalize mayB ⟨k,v,n,p⟩=M at*;unfold chkC at hc
 cases M
 all_goals
  simp only[Bool.false_eq_true,if_false,if_true] at hc
  go_enter Tryz.func117,Tryz.ntmps117
  go_wp2_with fail;refine hc.out.mono ?_;rintro e w' ⟨rfl,hb2⟩;have hbn:=zh (hb.out.trans (hb2.mono hb.out.size));clear hb2;go_wp2;go_ret;exact⟨rfl,hbn.out⟩
set_option maxRecDepth 100000 in
theorem y5k (a:Option Addr)(n c:Nat)(cs:List Ce)(w:World)(hn:cs.length=n)(hs:CSrc w a cs)(hl:n≤9223372036854775807):
  Calls Tryz.prog 156 #[.slice a n c,.func (.func 117) #[] #[]] w fun e w'=>∃R:Int,e=.returned (.int .i64 R)∧(decide (0≤R)=true↔¬z2k cs)∧Below w.heap.size w w':=by
 have Hs:=zh hs;have Hn:=zh hn;clear hs hn;have eg:∀args w,(callFunc 117 args).run Tryz.prog w=.ok (.enter 117 args) w:=enters_of Tryz.func117 (by kernel_rfl) rfl
 go_enter Tryz.func156,Tryz.ntmps156
 go_wp2
 go_loopw [5,8] (fun _ i wr=>∃k:Nat,k≤n∧i=.int .i64 k∧Hid (∀j,j<k→mayB (ca cs j)=true)∧Hid (Below w.heap.size w wr)) (fun _ i _=>n-(intOf i).toNat)
 case atStart=>exact⟨0,Nat.zero_le _,rfl,fun j h=>by omega,zbr _ _⟩
 case round=>
  obtain⟨k,hk,rfl,hall,hB⟩:=hrel
  by_cases hlt:k<n
  ·obtain⟨g,o,rfl,hcell⟩:=Hs.out.below hB.out (zlr _) (by rw[Hn.out];omega);obtain⟨q0,q1,q2,q3⟩:=hcell k (by rw[Hn.out];exact hlt);have hyes:Hid (mayB (ca cs k)=true→∀j,j<k+1→mayB (ca cs j)=true):=fun h j hj=>by
    rcases zng j k with h1|h1
    ·exact hall.out j h1
    ·obtain rfl:j=k:=by omega
     exact h
   have hno:Hid (mayB (ca cs k)=false→¬z2k cs):=fun h h2=>by
    have:=h2 k (by rw[Hn.out];exact hlt);rw[h] at this;cases this
   clear hcell hall;generalize ca cs k=y at*;obtain⟨x0,x1,x2,x3⟩:=y;dsimp only at q0 q1 q2 q3;have hcall:=zh (x05 x0 x1 x2 x3 wr);generalize mayB ⟨x0,x1,x2,x3⟩=M at*
   cases M with
   | true=>
    have hy:=zh (hyes.out rfl);rw[show(!true)=false from rfl] at hcall;clear hyes hno
    go_wp2_with (go_at_fn 117;refine hcall.out.mono ?_;rintro e w' ⟨rfl,hb⟩)
    have hB2:=zh (hB.out.trans (hb.mono hB.out.size));clear hb
    go_roundw
    case rel=>exact⟨k+1,by omega,by go_num,hy,hB2⟩
    case measure=>simp[intOf];omega
   | false=>
    have hy:=zh (hno.out rfl);rw[show(!false)=true from rfl] at hcall;clear hyes hno
    go_wp2_with (go_at_fn 117;refine hcall.out.mono ?_;rintro e w' ⟨rfl,hb⟩)
    have hB2:=zh (hB.out.trans (hb.mono hB.out.size));clear hb;go_ret;exact⟨_,rfl,⟨fun _=>hy.out,fun _=>by simp⟩,hB2.out⟩
  ·obtain rfl:k=n:=by omega
   have hy:Hid (z2k cs):=fun j hj=>hall.out j (by rw[←Hn.out];exact hj)
   clear hall;go_wp2;go_ret;exact⟨_,rfl,⟨fun h=>by simp at h,fun h=>absurd hy.out h⟩,hB.out⟩
theorem z9v (a:Option Addr)(n c:Nat)(cs:List Ce)(w:World)(hn:cs.length=n)(hs:CSrc w a cs)(hl:n≤9223372036854775807):
  Calls Tryz.prog 116 #[.slice a n c,.func (.func 117) #[] #[]] w fun e w'=>∃D,e=.returned (.bool D)∧(D=true↔¬z2k cs)∧Below w.heap.size w w':=by
 have hI:=zh (y5k a n c cs w hn hs hl);clear hn hs
 go_enter Tryz.func116,Tryz.ntmps116
 go_wp2_with (go_at_call 156;refine hI.out.mono ?_;rintro e w' ⟨R,rfl,hR,hb⟩;have HR:=zh hR;have Hb:=zh hb;clear hR hb)
 go_ret;exact⟨_,rfl,HR.out,Hb.out⟩
set_option maxRecDepth 100000 in
set_option maxHeartbeats 1000000 in
theorem x06 (a:Option Addr)(n c:Nat)(cs:List Ce)(w:World)(hn:cs.length=n)(hs:CSrc w a cs)(hl:n≤65536):
  Calls Tryz.prog 83 #[.slice a n c] w fun e w'=>∃v,e=.returned (.tuple #[v,errV (encE cs)])∧Sl w' v (encB cs)∧Below w.heap.size w w':=by
 have Hs:=zh hs;have Hn:=zh hn;have hC:=zh (z9v a n c cs w hn hs (by omega));clear hs hn
 go_enter Tryz.func83,Tryz.ntmps83
 go_wp2_with fail;refine hC.out.mono ?_;rintro e w1 ⟨D,rfl,hD,hb1⟩;have HD:=zh hD;have Hb1:=zh hb1;clear hD hb1 hC
 cases D with
 | true=>
  have he:=zh (enc_1 (HD.out.1 rfl));go_wp2
  go_ret2
  exact⟨.slice none 0 0,by rw[he.out.1];rfl,by rw[he.out.2];exact Sl.none _,Hb1.out⟩
 | false=>
  have hall:Hid (z2k cs):=by
   show z2k cs
   by_cases h:z2k cs
   ·exact h
   ·have:=HD.out.2 h;cases this
  clear HD;have Hs1:=zh (Hs.out.below Hb1.out (zlr _));go_wp2_with fail;refine(y03 a n c cs w1 Hn.out Hs1.out (by omega)).mono ?_;rintro e w2 ⟨D,rfl,hD,hb2⟩;have HD:=zh hD;have Hs2:=zh (Hs1.out.below hb2 (zlr _));have Hb2:=zh (Hb1.out.trans (hb2.mono Hb1.out.size));clear hD hb2 Hb1 Hs1
  cases D with
  | false=>
   have he:=zh (q4c hall.out (fun h=>by have:=HD.out.2 h;cases this));clear HD;go_wp2
   go_ret2
   exact⟨.slice none 0 0,by rw[he.out.1];rfl,by rw[he.out.2];exact Sl.none _,Hb2.out⟩
  | true=>
   have hasc:=zh (HD.out.1 rfl);clear HD;have hll:Hid ((z10 cs).length=vs n+(body cs).length):=by show _=_;rw[z6d,Hn.out]
   have hllb:(z10 cs).length≤10+124*n:=by
    have h1:=q1w hall.out cs.length (zlr _);rw[y8e cs _ (zlr _),Hn.out] at h1;have h2:=z6a (show n<18446744073709551616 by omega);rw[hll.out];omega
   have h5:=zh (fun h=>enc_5 hall.out hasc.out (show 504<(z10 cs).length from h));have h0:=zh (fun h=>q4d hall.out hasc.out (show(z10 cs).length≤504 from h));have hsz:=zh (y2p a n c cs w2 Hn.out Hs2.out (by omega) hall.out);have hload:Hid (z10 cs=vb n++body cs):=by show _=_;unfold z10;rw[Hn.out]
   generalize hLL:(z10 cs).length=LL at*;have HLL:=zh hLL;clear hLL;go_wp2_with fail;refine hsz.out.mono ?_;rintro e w3 ⟨rfl,hb3⟩;have Hs3:=zh (Hs2.out.below hb3 (zlr _));have Hb3:=zh (Hb2.out.trans (hb3.mono Hb2.out.size));clear hb3 Hb2 Hs2 hsz
   by_cases hlong:504<LL
   ·have he:=zh (h5.out hlong);have d1:decide (504<(LL:Int))=true:=by simp;omega
    clear h5 h0;go_wp2
    go_ret2
    exact⟨.slice none 0 0,by rw[he.out.1];rfl,by rw[he.out.2];exact Sl.none _,Hb3.out⟩
   ·have he:=zh (h0.out (by omega));have d1:decide (504<(LL:Int))=false:=by simp;omega
    clear h5 h0;go_wp2_with fail;refine(z5v none 0 0 [] rfl n w3 (Src.nil _ _) (by omega) (by omega)).mono ?_;rintro e w4 ⟨v,rfl,hv,hb4⟩;have Hs4:=zh (Hs3.out.below hb4 (zlr _));have Hb4:=zh (Hb3.out.trans (hb4.mono Hb3.out.size));have Hv:=zh hv;clear hv hb4 Hb3 Hs3;go_wp2_with fail
    go_loopw [4,24] (fun b i wr=>∃k:Nat,k≤n∧i=.int .i64 k∧Hid (Sl wr b (vb n++body (cs.take k)))∧Hid (Below w.heap.size w wr)) (fun _ i _=>n-(intOf i).toNat)
    case atStart=>exact⟨0,by omega,rfl,by show Sl _ _ _;have:=Hv.out;rw[List.nil_append] at this;rw[List.take_zero,body,List.append_nil];exact this,Hb4⟩
    case round=>
     obtain⟨k,hk,rfl,hsl,hB⟩:=hrel
     by_cases hlt:k<n
     ·obtain⟨g,o,rfl,hcell⟩:=Hs.out.below hB.out (zlr _) (by rw[Hn.out];omega);obtain⟨q0,q1,q2,q3⟩:=hcell k (by rw[Hn.out];exact hlt);have hmay:=hall.out k (by rw[Hn.out];exact hlt);have hbs:=zh (y3z cs k (by rw[Hn.out];exact hlt));obtain⟨ab,cb,rfl,hsb,hzb,_⟩:=hsl.out.arg;have hlen:(vb n++body (cs.take k)).length≤504:=by
       have h1:=x2x cs k;unfold sums at h1;have h2:=hll.out;rw[zla];show vs n+_≤_;omega
      generalize ca cs k=y at*;obtain⟨x0,x1,x2,x3⟩:=y;dsimp only at q0 q1 q2 q3;have hnew:Below wr.heap.size wr (wr.alloc (.cells #[.string x0,.string x1,.int .i64 x2,.int .i64 x3] CT)):=(zbr _ _).alloc (zlr _) _;have hput:=zh (y7a ab _ cb _ x0 x1 x2 x3 (wr.alloc (.cells #[.string x0,.string x1,.int .i64 x2,.int .i64 x3] CT)) rfl (hsb.below hnew (zlr _)) (by omega) hmay);have Hnew:=zh (hB.out.trans (hnew.mono hB.out.size));generalize (vb n++body (cs.take k)).length=m at*;clear hcell hmay hsb hzb hnew hsl hB;go_wp2_with fail;refine hput.out.mono ?_;rintro e w5 ⟨v,rfl,hv,hb5⟩;have hB2:=zh (Hnew.out.trans (hb5.mono Hnew.out.size));have hv2:Hid (Sl w5 v (vb n++body (cs.take (k+1)))):=by show Sl _ _ _;rw[hbs.out,←List.append_assoc];exact hv
      clear hv hb5 Hnew hput;go_wp2
      go_roundw
      case rel=>exact⟨k+1,by omega,by go_num,hv2,hB2⟩
      case measure=>simp[intOf];omega
     ·obtain rfl:k=n:=by omega
      have hsl2:=hsl.out;rw[List.take_of_length_le (by rw[Hn.out];exact zlr _),←hload.out] at hsl2;have Hsl2:=zh hsl2;clear hsl hsl2;go_wp2
      go_ret2
      exact⟨_,by rw[he.out.1];rfl,by rw[he.out.2];exact Hsl2.out,hB.out⟩
end Go.Proofs.YtdnfhjfbanhhcaaGreatDoor
