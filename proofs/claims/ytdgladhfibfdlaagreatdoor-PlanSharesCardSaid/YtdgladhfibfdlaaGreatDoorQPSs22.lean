/-
  Steps.
-/
import Derived.Test.YtdgladhfibfdlaaGreatDoorQPSs21
namespace Go.Proofs.YtdgladhfibfdlaaGreatDoor
open Go Go.RowKit Go.Proofs.Tryz
set_option maxRecDepth 100000
theorem y7f {ks:List ByteArray}{i:Nat}(h:i<ks.length):sa ks i∈ks:=by
 unfold sa;rw[List.getD_eq_getElem?_getD,List.getElem?_eq_getElem h];exact List.getElem_mem _
def y1x (t:Tr)(ts:List Tr):Prop:=(t.sz≤504∧ts=[t])∨(504<t.sz∧((∃pg cs a,t=.leaf pg cs∧ts=[.leaf 0 (cs.take a),.leaf 0 (cs.drop a)])∨∃pg ks kids a,t=.bran pg ks kids∧ts=[.bran 0 (ks.take a) (kids.take (a+1)),.bran 0 (ks.drop (a+1)) (kids.drop (a+1))]))
theorem y92 {t:Tr}{pg:Nat}{ks:List ByteArray}{ts:List Tr}(h:t=.bran pg ks ts):Fr [t] ts 0:=by
 have:=Fr.kids t;rw[h] at this⊢
 exact this
theorem y1x.fr {t:Tr}{ts:List Tr}(h:y1x t ts)(h0:t.pg=0):Fr [t] ts 1:=by
 rcases h with ⟨_,rfl⟩|⟨_,⟨pg,cs,a,rfl,rfl⟩|⟨pg,ks,kids,a,rfl,rfl⟩⟩
 ·exact(Fr.refl _).mono (by omega)
 ·obtain rfl:pg=0:=h0;refine⟨fun p=>by simp[Pq,Tr.pgs],by simp[nwL,Tr.nw],fun Q _=>by simp[onL,Tr.on]⟩
 ·obtain rfl:pg=0:=h0;have e:=List.take_append_drop (a+1) kids;refine⟨fun p=> ?_,?_,fun Q q=> ?_⟩
  ·have e2:(Pq kids).count p=(Pq (kids.take (a+1))).count p+(Pq (kids.drop (a+1))).count p:=by rw[←List.count_append,←G6,e]
   simp[Pq,Tr.pgs,List.count_append];omega
  ·have e2:nwL kids=nwL (kids.take (a+1))+nwL (kids.drop (a+1)):=by rw[←YV,e]
   simp only[nwL,Tr.nw,if_pos,Nat.add_zero];omega
  ·rw[zQ,Tr.on] at q;have q2:=q.2;rw[←e,zP] at q2;simp only[onL,Tr.on,and_true];exact⟨⟨fun h=>absurd rfl h,q2.1⟩,fun h=>absurd rfl h,q2.2⟩
theorem Mq {h:Nat}{lo hi:SB}{b:Nat}{t:Tr}(w:World)(hn:NdT w h lo hi b t)(h1:126≤t.sz)(h2:t.sz≤700):
  Calls prog 118 #[pt b] w fun e w'=>∃(vp vk:Value) (ks:List ByteArray) (ps:List Nat) (ts:List Tr),e=.returned (.tuple #[vp,vk])∧EV V8 w' vp ps∧EV V5 w' vk ks∧X8 (X2 w' h) ks lo hi ps ts∧(esL ts=t.es∧y1x t ts)∧ks.length≤1∧zB w w':=by
 rcases zng 504 t.sz with h3|h3
 ·cases h with
  | zero=>
   obtain⟨pg,es,rfl,hl,hlt,hs,hok⟩:=hn;have h3':=h3;simp only[Tr.sz] at h3 h2;refine(z26 b es w hl.leaf (fun x hx=>(hok x hx).1) h3 h2).mono ?_;rintro e w' ⟨a,b1,b2,vp,vk,rfl,ep,ek,l1,l2,a1,a2,s1,s2,hb⟩;have hk:=hok _ (Mw a2);have h0:=hok _ (Mw (show 0<es.length by omega));have hlt1:blt (ea es 0).k (ea es a).k=true:=z98 hs a1 a2;have hd:=zL es a a2;have hsp:=hs;rw[←List.take_append_drop a es] at hsp;have hpw:=List.pairwise_append.1 hsp;have hin1:∀x∈es.take a,blt x.k (ea es a).k=true:=fun x hx=>hpw.2.2 x hx _ (by rw[hd];simp)
   have hin2:∀x∈es.drop a,blt x.k (ea es a).k=false:=fun x hx=>by
    rw[hd] at hx hpw
    rcases List.mem_cons.1 hx with rfl|hx
    ·exact y4e _
    ·exact G3 ((List.pairwise_cons.1 hpw.2.1).1 x hx)
   refine⟨vp,vk,[(ea es a).k],[b1,b2],[.leaf 0 (es.take a),.leaf 0 (es.drop a)],rfl,ep,ek,⟨b1,[b2],_,[_],rfl,rfl,⟨⟨0,_,rfl,l1,x1s (k:=(ea es 0).k) ⟨h0.2.1,hlt1⟩,hpw.1,fun x hx=> ?_⟩,s1⟩,hk.1.1,b2,_,rfl,rfl,⟨⟨0,_,rfl,l2,?_,hpw.2.1,fun x hx=> ?_⟩,s2⟩⟩,⟨?_,.inr ⟨h3',.inl ⟨pg,es,a,rfl,rfl⟩⟩⟩,zlr _,hb⟩
   ·have:=hok x (List.mem_of_mem_take hx);exact⟨this.1,this.2.1,hin1 x hx⟩
   ·cases hi with
    | none=>trivial
    | some q=>exact hk.2.2
   ·have:=hok x (List.mem_of_mem_drop hx);exact⟨this.1,hin2 x hx,this.2.2⟩
   ·simp[esL,Tr.es]
  | succ h=>
   obtain⟨pg,ks,ps,ts,rfl,hl,hr⟩:=hn;have h3':=h3;simp only[Tr.sz] at h3 h2;have hfa:=hr.factsT;have hle:=hr.len;refine(z27 b ks ps w hl.bran hle.1 hfa.2.2.2 h3 h2).mono ?_;rintro e w' ⟨a,b1,b2,vp,vk,rfl,ep,ek,l1,l2,a1,a2,s1,s2,hb⟩;have hr':X8 (X2 w' h) ks lo hi ps ts:=hr.mono (fun _ _ _ _ hg=>X2.ext hb hg);obtain⟨r1,r2,r3⟩:=hr'.split (i:=a) (by omega);refine⟨vp,vk,[sa ks a],[b1,b2],[.bran 0 (ks.take a) (ts.take (a+1)),.bran 0 (ks.drop (a+1)) (ts.drop (a+1))],rfl,ep,ek,⟨b1,[b2],_,[_],rfl,rfl,⟨G8.2 ⟨0,_,_,_,rfl,l1,r1⟩,s1⟩,r2,b2,_,rfl,rfl,⟨G8.2 ⟨0,_,_,_,rfl,l2,r3⟩,s2⟩⟩,⟨?_,.inr ⟨h3',.inr ⟨pg,ks,ts,a,rfl,rfl⟩⟩⟩,zlr _,hb⟩;simp only[esL,Tr.es,List.append_nil];rw[←Qv,List.take_append_drop]
 ·refine(XF b t.sz w h3 (Ly w (NdT.nd h hn) (by omega))).mono ?_;rintro e w' ⟨vp,rfl,ep,hb⟩;exact⟨vp,Z0,[],[b],[t],rfl,ep,EV.none _,⟨b,t,rfl,rfl,NdT.ext hb h hn,h1,h3⟩,⟨U4 t,.inl ⟨h3,rfl⟩⟩,by simp,hb⟩
theorem XG {h:Nat}{lo hi:SB}{k:ByteArray}{b1 b2:Nat}{t1 t2:Tr}(w:World)(h1:NdT w h lo (some k) b1 t1)(h2:NdT w h (some k) hi b2 t2)(hk:okK k=true)(hs:t1.sz+t2.sz≤1000):
  Calls prog 152 #[pt b1,.string k,pt b2] w fun e w'=>∃b t,e=.returned (pt b)∧NdT w' h lo hi b t∧(t.es=t1.es++t2.es∧t.pg=0∧t.kids=t1.kids++t2.kids)∧t.sz≤t1.sz+t2.sz+41∧t1.sz≤t.sz∧t2.sz≤t.sz∧zB w w':=by
 cases h with
 | zero=>
  obtain⟨pg1,e1,rfl,l1,lt1,so1,ok1⟩:=h1;obtain⟨pg2,e2,rfl,l2,lt2,so2,ok2⟩:=h2;have g1:=Vu (fun x hx=>(ok1 x hx).1);have g2:=Vu (fun x hx=>(ok2 x hx).1);simp only[Tr.sz] at hs⊢
  have z1:Y3 e1=vs e1.length+szs e1:=rfl;have z2:Y3 e2=vs e2.length+szs e2:=rfl;refine(z2x b1 b2 k e1 e2 w l1.leaf l2.leaf (by omega)).mono ?_;rintro e w' ⟨b,rfl,lf,hb⟩;have v1:=O1 e1.length;have v2:=O1 e2.length;have v3:vs (e1++e2).length≤2:=D9 2 _ (by rw[zla];omega) (by omega);have v4:vs e1.length≤vs (e1++e2).length:=z86 _ _ (by rw[zla];omega);have v5:vs e2.length≤vs (e1++e2).length:=z86 _ _ (by rw[zla];omega);have sz:Y3 (e1++e2)=vs (e1++e2).length+(szs e1+szs e2):=by unfold Y3;rw[Eu]
  refine⟨b,.leaf 0 (e1++e2),rfl,⟨0,_,rfl,lf,jO lt1 lt2,?_,fun x hx=> ?_⟩,⟨by simp only[Tr.es],rfl,rfl⟩,by simp only;omega,by simp only;omega,by simp only;omega,hb⟩
  ·unfold srt;rw[List.pairwise_append];exact⟨so1,so2,fun x hx y hy=>jM (ok1 x hx).2.2 (ok2 y hy).2.1⟩
  ·rcases List.mem_append.1 hx with hx|hx
   ·exact⟨(ok1 x hx).1,z4y (ok1 x hx).2 lt2⟩
   ·exact⟨(ok2 x hx).1,jP (ok2 x hx).2 lt1⟩
 | succ h=>
  obtain⟨pg1,ks1,ps1,ts1,rfl,l1,r1⟩:=h1;obtain⟨pg2,ks2,ps2,ts2,rfl,l2,r2⟩:=h2;have n1:=r1.len;have n2:=r2.len;have g1:=Y5 r1.factsT.2.2.2;have g2:=Y5 r2.factsT.2.2.2;simp only[Tr.sz] at hs⊢
  have z1:T8 ks1=2+kss ks1:=rfl;have z2:T8 ks2=2+kss ks2:=rfl;refine(z2y b1 b2 k ks1 ks2 ps1 ps2 w l1.bran l2.bran (by omega) (by omega) (by omega)).mono ?_;rintro e w' ⟨b,rfl,lf,hb⟩;have r1':X8 (X2 w' h) ks1 lo (some k) ps1 ts1:=r1.mono (fun _ _ _ _ hg=>X2.ext hb hg);have r2':X8 (X2 w' h) ks2 (some k) hi ps2 ts2:=r2.mono (fun _ _ _ _ hg=>X2.ext hb hg);have hks:=Xv hk;have sz:T8 (ks1++k::ks2)=2+(kss ks1+(3+k.size+kss ks2)):=by unfold T8;rw[J9,zN]
  exact⟨b,.bran 0 (ks1++k::ks2) (ts1++ts2),rfl,G8.2 ⟨0,_,_,_,rfl,lf,r1'.append hk r2'⟩,⟨by simp only[Tr.es,Qv],rfl,rfl⟩,by simp only;omega,by simp only;omega,by simp only;omega,hb⟩
theorem y1y {t1 t2 t:Tr}(h0:t.pg=0)(hk:t.kids=t1.kids++t2.kids)(h1:t1.pg=0∨t2.pg=0):Fr [t1,t2] [t] 0:=by
 have e1:t1.nw=(if t1.pg=0 then 1 else 0)+nwL t1.kids:=t1.nw_eq;have e2:t2.nw=(if t2.pg=0 then 1 else 0)+nwL t2.kids:=t2.nw_eq;refine⟨fun p=> ?_,?_,fun Q q=> ?_⟩
 ·simp only[Pq,List.append_nil];rw[t.pgs_eq,if_pos h0,hk,G6,t1.pgs_eq,t2.pgs_eq];simp only[List.nil_append,List.count_append];omega
 ·have e3:=y0l h0;rw[hk,YV] at e3;simp only[nwL]
  rcases h1 with h1|h1
  ·rw[if_pos h1] at e1;omega
  ·rw[if_pos h1] at e2;omega
 ·rw[zQ];simp only[onL] at q;refine t.on_new h0 ?_;rw[hk,zP];exact⟨t1.on_kids q.1,t2.on_kids q.2.1⟩
theorem X8.kid {β:Type}{G:SB→SB→Nat→β→Prop}{ks:List ByteArray}{lo hi:SB}{ps:List Nat}{ess:List β}{m:Nat}{d:β}(h:X8 G ks lo hi ps ess)(hm:m≤ks.length):G (lob lo ks m) (hib hi ks m) (na ps m) (ess.getD m d):=by
 have h1:=(h.left hm).1;have hl:=h.len;unfold hib
 rcases zng m ks.length with h2|h2
 ·rw[if_pos h2];rw[zO ks m h2] at h1;obtain⟨p,ps',e,ess',h3,h4,h5,_⟩:=h1;have e1:na ps m=p:=by
   unfold na;rw[List.getD_eq_getElem?_getD];have:=congrArg (·[0]?) h3;simp at this;rw[this];rfl
  have e2:ess.getD m d=e:=by
   rw[List.getD_eq_getElem?_getD];have:=congrArg (·[0]?) h4;simp at this;rw[this];rfl
  rw[e1,e2];exact h5
 ·rw[if_neg (by omega)];rw[List.drop_of_length_le h2] at h1;obtain⟨p,e,h3,h4,h5⟩:=h1;have e1:na ps m=p:=by
   unfold na;rw[List.getD_eq_getElem?_getD];have:=congrArg (·[0]?) h3;simp at this;rw[this];rfl
  have e2:ess.getD m d=e:=by
   rw[List.getD_eq_getElem?_getD];have:=congrArg (·[0]?) h4;simp at this;rw[this];rfl
  rw[e1,e2];exact h5
theorem yN {h:Nat}{w w':World}{ks:List ByteArray}{lo hi:SB}{ps:List Nat}{ts:List Tr}{i j:Nat}{ks':List ByteArray}{ps':List Nat}{ts':List Tr}(hr:X8 (X2 w h) ks lo hi ps ts)(hb:zB w w')
  (hij:i≤j) (hj:j≤ks.length) (hji:j≤i+1) (hr':X8 (X2 w' h) ks' (lob lo ks i) (hib hi ks j) ps' ts') (hk:ks'.length≤1):
  X8 (X2 w' h) (ks.take i++(ks'++ks.drop j)) lo hi (ps.take i++(ps'++ps.drop (j+1))) (ts.take i++(ts'++ts.drop (j+1)))∧
  T8 (ks.take i++(ks'++ks.drop j))≤T8 ks+43∧T8 ks≤T8 (ks.take i++(ks'++ks.drop j))+43:=by
 have hr2:X8 (X2 w' h) ks lo hi ps ts:=hr.mono (fun _ _ _ _ hg=>X2.ext hb hg);have hok:=hr2.factsT.2.2.2;have hok':=hr'.factsT.2.2.2;have g':=Y5 hok';refine⟨(hr2.cut hij hj).2 _ _ _ hr',?_⟩;have e1:kss ks=kss (ks.take i)+kss (ks.drop i):=by rw[←J9,List.take_append_drop]
 have e2:kss (ks.drop i)=kss ((ks.drop i).take (j-i))+kss (ks.drop j):=by
  rw[←J9];have:ks.drop j=(ks.drop i).drop (j-i):=by rw[List.drop_drop];congr 1;omega
  rw[this,List.take_append_drop]
 have g2:=Y5 (ks:=(ks.drop i).take (j-i)) (fun x hx=>hok x (List.mem_of_mem_drop (List.mem_of_mem_take hx)));have hl:((ks.drop i).take (j-i)).length≤1:=by rw[zlk];omega
 unfold T8;rw[J9,J9];omega
theorem yO (ps:List Nat)(p i at':Nat)(h:at'<ps.length)(hi:i≤at'):(ps.take at'++([p]++ps.drop (at'+1))).take i=ps.take i:=by
 rw[List.take_append_of_le_length (by rw[zlk];omega),List.take_take,Nat.min_eq_left hi]
theorem yP (ps:List Nat)(p m at':Nat)(h:at'<ps.length)(hm:at'<m):(ps.take at'++([p]++ps.drop (at'+1))).drop m=ps.drop m:=by
 rw[←List.append_assoc,List.drop_append];have e:(ps.take at'++[p]).length=at'+1:=by rw[zla,zlk];simp;omega
 rw[List.drop_of_length_le (by omega),List.nil_append,e,List.drop_drop]
 congr 1;omega
theorem y7g (ps:List Nat)(p at':Nat)(h:at'<ps.length):na (ps.take at'++([p]++ps.drop (at'+1))) at'=p:=by
 have e:(ps.take at').length=at':=by rw[zlk];omega
 unfold na;rw[List.getD_eq_getElem?_getD,List.getElem?_append_right (by omega),e,Nat.sub_self];rfl
theorem x16 (ps:List Nat)(p at' m:Nat)(h:at'<ps.length)(hm:m<at'):na (ps.take at'++([p]++ps.drop (at'+1))) m=na ps m:=by
 unfold na;rw[List.getD_eq_getElem?_getD,List.getElem?_append_left (by rw[zlk];omega),List.getElem?_take,if_pos hm,List.getD_eq_getElem?_getD]
theorem x17 (ps:List Nat)(p at':Nat)(h:at'<ps.length):na (ps.take at'++([p]++ps.drop (at'+1))) (at'+1)=na ps (at'+1):=by
 have e:(ps.take at').length=at':=by rw[zlk];omega
 unfold na;rw[List.getD_eq_getElem?_getD,List.getElem?_append_right (by omega),e,show at'+1-at'=1 by omega,List.getElem?_append_right (by simp)];simp[List.getD_eq_getElem?_getD]
theorem z28 (ps:List Nat)(p at':Nat)(h:at'<ps.length):(ps.take at'++([p]++ps.drop (at'+1))).length=ps.length:=by
 simp only[zla,zlk,zld,List.length_cons,List.length_nil];omega
theorem y5l {ess:List (List En)}{i:Nat}(h:i<ess.length):(ess.take (i+1)).flatten=(ess.take i).flatten++ess.getD i []:=by
 rw[List.take_succ_eq_append_getElem h,List.flatten_append];simp[List.getD,h]
theorem y5m {ess:List (List En)}{i:Nat}(h:i<ess.length):(ess.drop i).flatten=ess.getD i []++(ess.drop (i+1)).flatten:=by
 rw[List.drop_eq_getElem_cons h,List.flatten_cons];simp[List.getD,h]
instance :Inhabited Tr:=⟨.leaf 0 []⟩
def ta (ts:List Tr)(i:Nat):Tr:=ts.getD i default
theorem y1z {ts:List Tr}{i:Nat}(h:i<ts.length):ts.take (i+1)=ts.take i++[ta ts i]:=by
 rw[List.take_succ_eq_append_getElem h];simp[ta,List.getD,h]
theorem yQ {ts:List Tr}{i:Nat}(h:i<ts.length):ts.drop i=ta ts i::ts.drop (i+1):=by
 rw[List.drop_eq_getElem_cons h];simp[ta,List.getD,h]
theorem z5b {ts:List Tr}{i:Nat}(h:i<ts.length):ts=ts.take i++([ta ts i]++ts.drop (i+1)):=by
 conv=>lhs;rw[←List.take_append_drop i ts,yQ h]
 rfl
def ZL (w:World)(h:Nat)(lo hi:SB)(ks:List ByteArray)(ts:List Tr)(A:Nat)(t':Tr)(e:Ending)(w':World):Prop:=
 ∃b2 ks2 ps2 ts2,e=.returned (pt b2)∧K2 w' b2 0 ks2 ps2∧X8 (X2 w' h) ks2 lo hi ps2 ts2∧(esL ts2=esL (ts.take A)++(t'.es++esL (ts.drop (A+1)))∧(t'.pg=0→Fr (ts.take A++([t']++ts.drop (A+1))) ts2 1))∧T8 ks2≤T8 ks+43∧T8 ks≤T8 ks2+43∧zB w w'
set_option maxHeartbeats 4000000 in
theorem yR {h:Nat}{lo hi:SB}(b:Nat)(ks:List ByteArray)(ps:List Nat)(ts:List Tr)(A:Nat)(p:Nat)(t':Tr)(s':Nat)(w:World)(hb:z2f w b ks ps)(hr:X8 (X2 w h) ks lo hi ps ts)(hl1:1≤ks.length)(hbr:T8 ks≤504)(hA:A≤ks.length)(hn:NdT w h (lob lo ks A) (hib hi ks A) p t')(hsz:t'.sz=s')(h126:126≤s')(hs:s'≤660):
  Calls prog 119 #[pt b,.int .i64 A,pt p] w fun e w'=>ZL w h lo hi ks ts A t' e w':=by
 have hok:=hr.factsT.2.2.2;have Hsz:=zh hsz;have Hsn:Hid (∀w1,zB w w1→Calls prog 146 #[pt p] w1 fun e w'=>e=.returned (.int .i64 (s':Nat))∧zB w1 w'):=fun w1 hb1=>by
  have h1:=Ly w1 (NdT.nd h (NdT.ext hb1 h hn)) (by omega)
  rwa [hsz] at h1
 have hle:=hr.len;have hkl:ks.length≤126:=by have:=Y5 hok;unfold T8 at hbr;omega
 obtain⟨vk,vp,nb,⟨a0,c,rfl,s0,_,hnc,hcm⟩,⟨a1,d,rfl,s1,_,hmd,hdm⟩⟩:=hb;obtain⟨g,o,rfl,hcell⟩:=s0.texts (by omega);obtain⟨g2,o2,rfl,_⟩:=s1.ptrs (by omega);obtain⟨gp,w0,hgp,hw0,hc0,hb0⟩:=Y1 w PNT #[pt p];have q2:w.cell? ⟨b,3,none⟩=some (.slice (some ⟨g2,o2,none⟩) ps.length d):=nb.c3;have hs0:ES V8 w0 (some ⟨gp,0,none⟩) [p]:=ES.lit (E:=V8) (l:=[p]) hc0;have Hspl:=zh (Kx (some ⟨g2,o2,none⟩) ps.length d ps A 1 (some ⟨gp,0,none⟩) 1 1 [p] w0 rfl (s1.below hb0 (zlr _)) hmd hdm (fun h=>by cases h) (by omega) rfl (fun h=>by cases h) hs0 (by omega) (by omega));have HG:=zh (zai hgp hw0);have HB:=zh hb0;have Hlen:=zh (z28 ps p A (by omega));have Hn:=zh hn;have Hnb:=zh nb;have Hr:=zh hr;have HS:=zh (zai s0 (zai hnc hcm));have HC:=zh hcell;have Hle:=zh hle;have Hen:=zh (fun w=>E6 ((s':Nat):Int) w);rw[zdt (show(126:Int)≤(s':Int) by omega)] at Hen;have hcm':c≤9223372036854775807:=by unfold maxLen at hcm;omega
 obtain⟨n,hkn⟩:∃n,ks.length=n:=⟨_,rfl⟩
 obtain⟨m,hpm⟩:∃m,ps.length=m:=⟨_,rfl⟩
 have HL:=zh (zai hkn hpm);rw[hpm] at q2 Hspl;rw[hkn,hpm] at Hnb hle;rw[hkn] at HS HC hnc hl1 hkl;rw[hkn] at hA;have hmn1:m≤n+1:=by omega
 have hmn2:n+1≤m:=by omega
 clear hsz hle hok hr hn nb s0 s1 hcell hmd hdm hcm hgp hw0 hc0 hb0 hs0 hkn hpm hbr
 go_enter func119,ntmps119
 go_wp2_with fail;rw[HG.out.1,HG.out.2];refine Hspl.out.mono ?_;rintro e w1 ⟨v,rfl,⟨a3,c3,rfl,s3,z3,hn3,hm3⟩,hb1⟩;replace HB:=zh (HB.out.trans (hb1.mono HB.out.size));rw[Hlen.out,HL.out.2] at hn3⊢
 have HS3:=zh (zai s3 (zai z3 (zai hn3 hm3)));clear Hspl HG q2 s3 z3 hn3 hm3 hb1;go_wp2_with fail;refine(Hsn.out w1 HB.out).mono ?_;rintro e w2 ⟨rfl,hb2⟩;replace HS3:=zh (zai (HS3.out.1.below hb2 (zlr _)) HS3.out.2);replace HB:=zh (HB.out.trans (hb2.mono HB.out.size));clear hb2;go_wp2_with fail;refine(Hen.out w2).mono ?_;rintro e w' ⟨rfl,rfl⟩;clear Hen;have Hk:=zh (zai (NdT.ext HB.out h Hn.out) (zai (show 126≤t'.sz by have:=Hsz.out;omega) (show t'.sz≤700 by have:=Hsz.out;omega)));have q1:∀w',zB w w'→w'.cell? ⟨b,2,none⟩=some (.slice (some ⟨g,o,none⟩) n c):=fun w' hx=>(Hnb.out.ext hx).c2
 have Hq1:=zh q1;clear q1;go_wp2_with fail;refine(Mq w2 Hk.out.1 Hk.out.2.1 Hk.out.2.2).mono ?_;rintro e w4 ⟨vp,vk,ks',ps',ts',rfl,⟨ap,cp,rfl,sp,zp,_⟩,⟨ak,ck,rfl,sk,zk,_⟩,hr',hfl,hk1,hb4⟩;replace HS3:=zh (zai (HS3.out.1.below hb4 (zlr _)) HS3.out.2);replace HB:=zh (HB.out.trans (hb4.mono HB.out.size));have hle':=hr'.len;have q1:=Hq1.out w4 HB.out;have HsS:=zh (yF (some ⟨g,o,none⟩) n c ks A 0 ak ks'.length ck ks' w4 HL.out.1 (HS.out.1.below HB.out (zlr _)) hnc HS.out.2.2 (fun h=>by cases h) (by omega) rfl zk sk (by omega) (by omega));have HsP:=zh (zai sp zp);have Hr':=zh hr';have Hfl:=zh hfl;obtain⟨nk,hnk⟩:∃n,ks'.length=n:=⟨_,rfl⟩
 obtain⟨np,hnp⟩:∃n,ps'.length=n:=⟨_,rfl⟩
 have HLn:=zh (zai hnk hnp);rw[hnk] at HsS hk1⊢
 rw[hnp] at⊢
 have hnp2:np≤2:=by omega
 clear hb4 hle' sp zp sk zk hr' hfl hnk hnp Hk Hn;go_wp2_with fail;refine HsS.out.mono ?_;rintro e w5 ⟨vS,rfl,⟨aS,cS,rfl,eS,rS⟩,hb5⟩;replace HS3:=zh (zai (HS3.out.1.below hb5 (zlr _)) HS3.out.2);replace HsP:=zh (zai (HsP.out.1.below hb5 (zlr _)) HsP.out.2);replace HB:=zh (HB.out.trans (hb5.mono HB.out.size));replace Hr':Hid (X8 (X2 w5 h) ks' (lob lo ks A) (hib hi ks A) ps' ts'):=Hr'.out.mono (fun _ _ _ _ hg=>X2.ext hb5 hg);have HeS:=zh (zai eS rS);have HPp:=zh (Kx a3 m c3 (ps.take A++([p]++ps.drop (A+1))) A 1 ap np cp ps' w5 (by rw[Hlen.out,HL.out.2]) HS3.out.1 HS3.out.2.2.1 HS3.out.2.2.2 HS3.out.2.1 (by omega) HLn.out.2 HsP.out.2 HsP.out.1 (by omega) (by omega));obtain⟨NS,hNS⟩:∃N,(ks.take A++(ks'++ks.drop (A+0))).length=N:=⟨_,rfl⟩
 have HNS:=zh hNS;rw[hNS];clear hb5 eS rS HsS hNS q1;go_wp2_with fail;refine HPp.out.mono ?_;rintro e w6 ⟨vP,rfl,⟨aP,cP,rfl,eP,rP⟩,hb6⟩;replace HeS:=zh (zai (HeS.out.1.below hb6 (zlr _)) HeS.out.2);replace HB:=zh (HB.out.trans (hb6.mono HB.out.size));replace Hr':Hid (X8 (X2 w6 h) ks' (lob lo ks A) (hib hi ks A) ps' ts'):=Hr'.out.mono (fun _ _ _ _ hg=>X2.ext hb6 hg);have HeP:=zh (zai eP rP);obtain⟨NP,hNP⟩:∃N,((ps.take A++([p]++ps.drop (A+1))).take A++(ps'++(ps.take A++([p]++ps.drop (A+1))).drop (A+1))).length=N:=⟨_,rfl⟩
 have HNP:=zh hNP;rw[hNP];clear hb6 eP rP HPp hNP HsP HS3;obtain⟨gN,wN,hgN,hwN,hnbN,hbN⟩:=Y0 w6 Z0 (.slice aS NS cS) (.slice aP NP cP);have HGN:=zh (zai hgN hwN);have HbN:=zh hbN;have HnbN:=zh hnbN;replace HB:=zh (HB.out.trans (hbN.mono HB.out.size));clear hgN hwN hnbN hbN;go_wp2;rw[HGN.out.1,HGN.out.2];go_ret;have hfin:=yN Hr.out HB.out (i:=A) (j:=A) (by omega) (by have:=HL.out.1;omega) (by omega) (Hr'.out.mono (fun _ _ _ _ hg=>X2.ext HbN.out hg)) (by rw[HLn.out.1];exact hk1);have hbran:K2 wN gN 0 (ks.take A++(ks'++ks.drop A)) (ps.take A++(ps'++ps.drop (A+1))):=by
  rw[Nat.add_zero] at HNS HeS;refine⟨_,_,HnbN.out,⟨aS,cS,by rw[HNS.out],HeS.out.1.below HbN.out (zlr _),by rw[HNS.out];rw[HNS.out] at HeS;exact HeS.out.2⟩,?_⟩;have e3:=HeP.out;have hN2:=HNP.out;rw[yO ps p A A (by have:=HL.out.2;have:=Hle.out;omega) (by omega),yP ps p _ A (by have:=HL.out.2;have:=Hle.out;omega) (by omega)] at e3 hN2;exact⟨aP,cP,by rw[hN2],e3.1.below HbN.out (zlr _),e3.2⟩
 refine⟨gN,_,_,_,rfl,hbran,hfin.1,⟨?_,fun h0=> ?_⟩,hfin.2.1,hfin.2.2,HB.out⟩
 ·rw[Qv,Qv,Hfl.out.1]
 ·exact((Fr.refl _).app ((Hfl.out.2.fr h0).app (Fr.refl _))).mono (by omega)
set_option maxHeartbeats 4000000 in
theorem z0t {h:Nat}{lo hi:SB}(b:Nat)(ks:List ByteArray)(ps:List Nat)(ts:List Tr)(p:Nat)(t':Tr)(s':Nat)(w:World)(hb:z2f w b ks ps)(hr:X8 (X2 w h) ks lo hi ps ts)(hl1:1≤ks.length)(hbr:T8 ks≤504)(hn:NdT w h (lob lo ks 0) (hib hi ks 0) p t')(hsz:t'.sz=s')(h126:s'<126):
  Calls prog 119 #[pt b,.int .i64 0,pt p] w fun e w'=>ZL w h lo hi ks ts 0 t' e w':=by
 have hok:=hr.factsT.2.2.2;have Hsz:=zh hsz;have Hsn:Hid (∀w1,zB w w1→Calls prog 146 #[pt p] w1 fun e w'=>e=.returned (.int .i64 (s':Nat))∧zB w1 w'):=fun w1 hb1=>by
  have h1:=Ly w1 (NdT.nd h (NdT.ext hb1 h hn)) (by omega)
  rwa [hsz] at h1
 have hle:=hr.len;have hkl:ks.length≤126:=by have:=Y5 hok;unfold T8 at hbr;omega
 obtain⟨vk,vp,nb,⟨a0,c,rfl,s0,_,hnc,hcm⟩,⟨a1,d,rfl,s1,_,hmd,hdm⟩⟩:=hb;obtain⟨g,o,rfl,hcell⟩:=s0.texts (by omega);obtain⟨g2,o2,rfl,_⟩:=s1.ptrs (by omega);obtain⟨gp,w0,hgp,hw0,hc0,hb0⟩:=Y1 w PNT #[pt p];have q2:w.cell? ⟨b,3,none⟩=some (.slice (some ⟨g2,o2,none⟩) ps.length d):=nb.c3;have hs0:ES V8 w0 (some ⟨gp,0,none⟩) [p]:=ES.lit (E:=V8) (l:=[p]) hc0;have Hspl:=zh (Kx (some ⟨g2,o2,none⟩) ps.length d ps 0 1 (some ⟨gp,0,none⟩) 1 1 [p] w0 rfl (s1.below hb0 (zlr _)) hmd hdm (fun h=>by cases h) (by omega) rfl (fun h=>by cases h) hs0 (by omega) (by omega));have HG:=zh (zai hgp hw0);have HB:=zh hb0;have Hlen:=zh (z28 ps p 0 (by omega));have Hn:=zh hn;have Hnb:=zh nb;have Hr:=zh hr;have HS:=zh (zai s0 (zai hnc hcm));have HC:=zh hcell;have Hle:=zh hle;have Hen:=zh (fun w=>E6 ((s':Nat):Int) w);rw[zdf (show¬(126:Int)≤(s':Int) by omega)] at Hen;have hcm':c≤9223372036854775807:=by unfold maxLen at hcm;omega
 obtain⟨n,hkn⟩:∃n,ks.length=n:=⟨_,rfl⟩
 obtain⟨m,hpm⟩:∃m,ps.length=m:=⟨_,rfl⟩
 have HL:=zh (zai hkn hpm);rw[hpm] at q2 Hspl;rw[hkn,hpm] at Hnb hle;rw[hkn] at HS HC hnc hl1 hkl;have hkid:X2 w h (lob lo ks 1) (hib hi ks 1) (na ps 1) (ta ts 1):=hr.kid (m:=1) (by omega);have e0:hib hi ks 0=some (sa ks 0):=by unfold hib;rw[if_pos (by omega)]
 have e1:lob lo ks 1=some (sa ks 0):=rfl;rw[e0] at Hn;rw[e1] at hkid;have HE1:=zh hkid;have Hk0:=zh (hok _ (y7f (show 0<ks.length by omega)));have HQ:=zh (zai (y7g ps p 0 (by omega)) (x17 ps p 0 (by omega)));clear hkid e0 e1;have hmn1:m≤n+1:=by omega
 have hmn2:n+1≤m:=by omega
 clear hsz hle hok hr hn nb s0 s1 hcell hmd hdm hcm hgp hw0 hc0 hb0 hs0 hkn hpm hbr
 go_enter func119,ntmps119
 go_wp2_with fail;rw[HG.out.1,HG.out.2];refine Hspl.out.mono ?_;rintro e w1 ⟨v,rfl,⟨a3,c3,rfl,s3,z3,hn3,hm3⟩,hb1⟩;replace HB:=zh (HB.out.trans (hb1.mono HB.out.size));rw[Hlen.out,HL.out.2] at hn3⊢
 have HS3:=zh (zai s3 (zai z3 (zai hn3 hm3)));clear Hspl HG q2 s3 z3 hn3 hm3 hb1;go_wp2_with fail;refine(Hsn.out w1 HB.out).mono ?_;rintro e w2 ⟨rfl,hb2⟩;replace HS3:=zh (zai (HS3.out.1.below hb2 (zlr _)) HS3.out.2);replace HB:=zh (HB.out.trans (hb2.mono HB.out.size));clear hb2;go_wp2_with fail;refine(Hen.out w2).mono ?_;rintro e w' ⟨rfl,rfl⟩;clear Hen;obtain⟨g3,o3,rfl,hc3⟩:=HS3.out.1.ptrs (by rw[Hlen.out,HL.out.2];omega);obtain⟨W,hW⟩:∃W,w2.drew=W:=⟨_,rfl⟩
 have hbd:zB w2 W:=by rw[←hW];exact(zbr _ _).drew
 have f0:=hc3 0 (by rw[Hlen.out,HL.out.2];omega);have f1:=hc3 (0+1) (by rw[Hlen.out,HL.out.2];omega);have f2:=HC.out 0 (by omega);rw[HQ.out.1] at f0;rw[HQ.out.2] at f1;replace HS3:=zh (zai (HS3.out.1.below hbd (zlr _)) HS3.out.2);obtain⟨hq1,hq2⟩:=HE1.out;have l0:=block_lt_of_cell f0;have l1:=block_lt_of_cell f1;have l2:=block_lt_of_cell f2;replace HB:=zh (HB.out.trans (hbd.mono HB.out.size));have q0:∀w',Ext W w'→w'.cell? ⟨g3,o3,none⟩=some (pt p):=fun w' hx=>by
  rw[(hbd.trans (hx.mono hbd.size)).cell (p:=⟨g3,o3,none⟩) l0];exact f0
 have q3:∀w',Ext W w'→w'.cell? ⟨g3,o3+1,none⟩=some (pt (na ps (0+1))):=fun w' hx=>by
  rw[(hbd.trans (hx.mono hbd.size)).cell (p:=⟨g3,o3+1,none⟩) l1];exact f1
 have q4:∀w',Ext W w'→w'.cell? ⟨g,o,none⟩=some (.string (sa ks 0)):=fun w' hx=>by
  rw[(HB.out.trans (hx.mono HB.out.size)).cell (p:=⟨g,o,none⟩) l2];exact f2
 have q5:∀w',Ext W w'→w'.cell? ⟨b,2,none⟩=some (.slice (some ⟨g,o,none⟩) n c):=fun w' hx=>((Hnb.out.ext HB.out).ext hx).c2
 have Hj:=zh (XG W (NdT.ext HB.out h Hn.out) (NdT.ext HB.out h hq1) Hk0.out (by have:=Hsz.out;omega));have HW:=zh hW;have h0m:(0:Int)<(m:Int):=by omega
 have h1m:(1:Int)<(m:Int):=by omega
 have h0n:(0:Int)<(n:Int):=by omega
 have h0m':0<m:=by omega
 have h1m':1<m:=by omega
 have h0n':0<n:=by omega
 have z00:IntKind.i64.wrap 0=0:=by decide
 have z01:IntKind.i64.wrap 1=1:=by decide
 have mx:max (-1:Int) 0=0:=by decide
 generalize na ps (0+1)=pn at*;generalize sa ks 0=kk at*;clear f0 f1 f2 l0 l1 l2 hbd hc3 HQ hW HE1 hq1 HC;go_wp2_with fail;refine rgr [(0,true),(1,true),(2,true),(3,true),(4,true),(5,true),(6,true),(7,true),(8,true),(9,true),(10,true),(11,true),(12,true),(13,true),(14,true),(15,true),(16,false),(17,true)] (h:= ?_);rw[HW.out];iterate 16 (refine grr (v:= ?_) rfl (by rfl) ?_ ?_;rotate_left;(intro w' hw';go_simp;with_reducible rfl);simp only[Act.put,zs0,zs1,zs2])
 clear q0 q3 q4 q5;refine grc rfl (by rfl) (fun K hK=> ?_);go_simp;refine Hj.out.mono ?_;rintro e w3 ⟨bj,tj,rfl,hj1,hj0,hj2,hj3,hj4,hb3⟩;have Hj0:=zh hj0;refine hK _ _ hb3 ?_;clear hK K Hj;have Hk:Hid (NdT w3 h (lob lo ks 0) (hib hi ks 1) bj tj∧126≤tj.sz∧tj.sz≤700):=⟨hj1,by omega,by have:=Hsz.out;omega⟩
 replace HS3:=zh (zai (HS3.out.1.below hb3 (zlr _)) HS3.out.2);replace HB:=zh (HB.out.trans (hb3.mono HB.out.size));clear hj0 hj1 hj2 hj3 hj4 hb3
 (refine grr (v:= ?_) rfl (by rfl) ?_ ?_;rotate_left;(intro w' hw';go_simp;with_reducible rfl);simp only[Act.put,zs0,zs1,zs2])
 refine Yq ?_;have q1:∀w',zB w w'→w'.cell? ⟨b,2,none⟩=some (.slice (some ⟨g,o,none⟩) n c):=fun w' hx=>(Hnb.out.ext hx).c2
 have Hq1:=zh q1;clear q1;go_wp2_with fail;refine(Mq w3 Hk.out.1 Hk.out.2.1 Hk.out.2.2).mono ?_;rintro e w4 ⟨vp,vk,ks',ps',ts',rfl,⟨ap,cp,rfl,sp,zp,_⟩,⟨ak,ck,rfl,sk,zk,_⟩,hr',hfl,hk1,hb4⟩;replace HS3:=zh (zai (HS3.out.1.below hb4 (zlr _)) HS3.out.2);replace HB:=zh (HB.out.trans (hb4.mono HB.out.size));have hle':=hr'.len;have q1:=Hq1.out w4 HB.out;have HsS:=zh (yF (some ⟨g,o,none⟩) n c ks 0 1 ak ks'.length ck ks' w4 HL.out.1 (HS.out.1.below HB.out (zlr _)) hnc HS.out.2.2 (fun h=>by cases h) (by omega) rfl zk sk (by omega) (by omega));have HsP:=zh (zai sp zp);have Hr':=zh hr';have Hfl:=zh hfl;obtain⟨nk,hnk⟩:∃n,ks'.length=n:=⟨_,rfl⟩
 obtain⟨np,hnp⟩:∃n,ps'.length=n:=⟨_,rfl⟩
 have HLn:=zh (zai hnk hnp);rw[hnk] at HsS hk1⊢
 rw[hnp] at⊢
 have hnp2:np≤2:=by omega
 clear hb4 hle' sp zp sk zk hr' hfl hnk hnp Hk Hn;go_wp2_with fail;refine HsS.out.mono ?_;rintro e w5 ⟨vS,rfl,⟨aS,cS,rfl,eS,rS⟩,hb5⟩;replace HS3:=zh (zai (HS3.out.1.below hb5 (zlr _)) HS3.out.2);replace HsP:=zh (zai (HsP.out.1.below hb5 (zlr _)) HsP.out.2);replace HB:=zh (HB.out.trans (hb5.mono HB.out.size));replace Hr':Hid (X8 (X2 w5 h) ks' (lob lo ks 0) (hib hi ks 1) ps' ts'):=Hr'.out.mono (fun _ _ _ _ hg=>X2.ext hb5 hg);have HeS:=zh (zai eS rS);have HPp:=zh (Kx (some ⟨g3,o3,none⟩) m c3 (ps.take 0++([p]++ps.drop (0+1))) 0 2 ap np cp ps' w5 (by rw[Hlen.out,HL.out.2]) HS3.out.1 HS3.out.2.2.1 HS3.out.2.2.2 HS3.out.2.1 (by omega) HLn.out.2 HsP.out.2 HsP.out.1 (by omega) (by omega));obtain⟨NS,hNS⟩:∃N,(ks.take 0++(ks'++ks.drop (0+1))).length=N:=⟨_,rfl⟩
 have HNS:=zh hNS;rw[hNS];clear hb5 eS rS HsS hNS q1;go_wp2_with fail;refine HPp.out.mono ?_;rintro e w6 ⟨vP,rfl,⟨aP,cP,rfl,eP,rP⟩,hb6⟩;replace HeS:=zh (zai (HeS.out.1.below hb6 (zlr _)) HeS.out.2);replace HB:=zh (HB.out.trans (hb6.mono HB.out.size));replace Hr':Hid (X8 (X2 w6 h) ks' (lob lo ks 0) (hib hi ks 1) ps' ts'):=Hr'.out.mono (fun _ _ _ _ hg=>X2.ext hb6 hg);have HeP:=zh (zai eP rP);obtain⟨NP,hNP⟩:∃N,((ps.take 0++([p]++ps.drop (0+1))).take 0++(ps'++(ps.take 0++([p]++ps.drop (0+1))).drop (0+2))).length=N:=⟨_,rfl⟩
 have HNP:=zh hNP;rw[hNP];clear hb6 eP rP HPp hNP HsP HS3;obtain⟨gN,wN,hgN,hwN,hnbN,hbN⟩:=Y0 w6 Z0 (.slice aS NS cS) (.slice aP NP cP);have HGN:=zh (zai hgN hwN);have HbN:=zh hbN;have HnbN:=zh hnbN;replace HB:=zh (HB.out.trans (hbN.mono HB.out.size));clear hgN hwN hnbN hbN;go_wp2;rw[HGN.out.1,HGN.out.2];go_ret;have hfin:=yN Hr.out HB.out (i:=0) (j:=1) (by omega) (by have:=HL.out.1;omega) (by omega) (Hr'.out.mono (fun _ _ _ _ hg=>X2.ext HbN.out hg)) (by rw[HLn.out.1];exact hk1);have hbran:K2 wN gN 0 (ks.take 0++(ks'++ks.drop 1)) (ps.take 0++(ps'++ps.drop (1+1))):=by
  rw[Nat.zero_add] at HNS HeS;refine⟨_,_,HnbN.out,⟨aS,cS,by rw[HNS.out],HeS.out.1.below HbN.out (zlr _),by rw[HNS.out];rw[HNS.out] at HeS;exact HeS.out.2⟩,?_⟩;have e3:=HeP.out;have hN2:=HNP.out;rw[yO ps p 0 0 (by have:=HL.out.2;have:=Hle.out;omega) (by omega),yP ps p _ 0 (by have:=HL.out.2;have:=Hle.out;omega) (by omega)] at e3 hN2;rw[show 0+2=1+1 from rfl] at e3 hN2;exact⟨aP,cP,by rw[hN2],e3.1.below HbN.out (zlr _),e3.2⟩
 refine⟨gN,_,_,_,rfl,hbran,hfin.1,⟨?_,fun h0=> ?_⟩,hfin.2.1,hfin.2.2,HB.out⟩
 ·rw[Qv,Qv,Hfl.out.1,Hj0.out.1,yQ (ts:=ts) (i:=0+1) (by have:=Hle.out;have:=HL.out.1;omega)];simp only[esL,List.append_assoc,Nat.zero_add]
 ·rw[yQ (ts:=ts) (i:=0+1) (by have:=Hle.out;have:=HL.out.1;omega)];have f:=(y1y Hj0.out.2.1 Hj0.out.2.2 (.inl h0)).trans (Hfl.out.2.fr Hj0.out.2.1);exact((Fr.refl (ts.take 0)).app (f.app (Fr.refl (ts.drop 2)))).mono (by omega)
set_option maxHeartbeats 4000000 in
theorem z29 {h:Nat}{lo hi:SB}(b:Nat)(ks:List ByteArray)(ps:List Nat)(ts:List Tr)(A J:Nat)(p:Nat)(t':Tr)(s':Nat)(w:World)(hb:z2f w b ks ps)(hr:X8 (X2 w h) ks lo hi ps ts)(hl1:1≤ks.length)(hbr:T8 ks≤504)(hAJ:A=J+1)(hA:A≤ks.length)(hn:NdT w h (lob lo ks A) (hib hi ks A) p t')(hsz:t'.sz=s')(h126:s'<126):
  Calls prog 119 #[pt b,.int .i64 A,pt p] w fun e w'=>ZL w h lo hi ks ts A t' e w':=by
 have hok:=hr.factsT.2.2.2;have Hsz:=zh hsz;have Hsn:Hid (∀w1,zB w w1→Calls prog 146 #[pt p] w1 fun e w'=>e=.returned (.int .i64 (s':Nat))∧zB w1 w'):=fun w1 hb1=>by
  have h1:=Ly w1 (NdT.nd h (NdT.ext hb1 h hn)) (by omega)
  rwa [hsz] at h1
 have hle:=hr.len;have hkl:ks.length≤126:=by have:=Y5 hok;unfold T8 at hbr;omega
 obtain⟨vk,vp,nb,⟨a0,c,rfl,s0,_,hnc,hcm⟩,⟨a1,d,rfl,s1,_,hmd,hdm⟩⟩:=hb;obtain⟨g,o,rfl,hcell⟩:=s0.texts (by omega);obtain⟨g2,o2,rfl,_⟩:=s1.ptrs (by omega);obtain⟨gp,w0,hgp,hw0,hc0,hb0⟩:=Y1 w PNT #[pt p];have q2:w.cell? ⟨b,3,none⟩=some (.slice (some ⟨g2,o2,none⟩) ps.length d):=nb.c3;have hs0:ES V8 w0 (some ⟨gp,0,none⟩) [p]:=ES.lit (E:=V8) (l:=[p]) hc0;have Hspl:=zh (Kx (some ⟨g2,o2,none⟩) ps.length d ps A 1 (some ⟨gp,0,none⟩) 1 1 [p] w0 rfl (s1.below hb0 (zlr _)) hmd hdm (fun h=>by cases h) (by omega) rfl (fun h=>by cases h) hs0 (by omega) (by omega));have HG:=zh (zai hgp hw0);have HB:=zh hb0;have Hlen:=zh (z28 ps p A (by omega));have Hn:=zh hn;have Hnb:=zh nb;have Hr:=zh hr;have HS:=zh (zai s0 (zai hnc hcm));have HC:=zh hcell;have Hle:=zh hle;have Hen:=zh (fun w=>E6 ((s':Nat):Int) w);rw[zdf (show¬(126:Int)≤(s':Int) by omega)] at Hen;have hcm':c≤9223372036854775807:=by unfold maxLen at hcm;omega
 obtain⟨n,hkn⟩:∃n,ks.length=n:=⟨_,rfl⟩
 obtain⟨m,hpm⟩:∃m,ps.length=m:=⟨_,rfl⟩
 have HL:=zh (zai hkn hpm);rw[hpm] at q2 Hspl;rw[hkn,hpm] at Hnb hle;rw[hkn] at HS HC hnc hl1 hkl;have hkid:X2 w h (lob lo ks J) (hib hi ks J) (na ps J) (ta ts J):=hr.kid (m:=J) (by omega);have e0:hib hi ks J=some (sa ks J):=by unfold hib;rw[if_pos (by omega)]
 have e1:lob lo ks A=some (sa ks J):=by rw[hAJ];rfl
 rw[e1] at Hn;rw[e0] at hkid;have HE1:=zh hkid;have Hk0:=zh (hok _ (y7f (show J<ks.length by omega)));have HQ:=zh (zai (x16 ps p A J (by omega) (by omega)) (y7g ps p A (by omega)));rw[hkn] at hA;have hJn:J<n:=by omega
 have zJ:IntKind.i64.wrap ((A:Int)-1)=(J:Int):=by rw[IntKind.wrap_i64];omega
 have zA:IntKind.i64.wrap ((J:Int)+1)=(A:Int):=by rw[IntKind.wrap_i64];omega
 have mJ:max (J:Int) 0=(J:Int):=by omega
 have HAJ:=zh hAJ;have hJA:J<A:=by omega
 clear hkid e0 e1 hAJ;have hmn1:m≤n+1:=by omega
 have hmn2:n+1≤m:=by omega
 clear hsz hle hok hr hn nb s0 s1 hcell hmd hdm hcm hgp hw0 hc0 hb0 hs0 hkn hpm hbr
 go_enter func119,ntmps119
 go_wp2_with fail;rw[HG.out.1,HG.out.2];refine Hspl.out.mono ?_;rintro e w1 ⟨v,rfl,⟨a3,c3,rfl,s3,z3,hn3,hm3⟩,hb1⟩;replace HB:=zh (HB.out.trans (hb1.mono HB.out.size));rw[Hlen.out,HL.out.2] at hn3⊢
 have HS3:=zh (zai s3 (zai z3 (zai hn3 hm3)));clear Hspl HG q2 s3 z3 hn3 hm3 hb1;go_wp2_with fail;refine(Hsn.out w1 HB.out).mono ?_;rintro e w2 ⟨rfl,hb2⟩;replace HS3:=zh (zai (HS3.out.1.below hb2 (zlr _)) HS3.out.2);replace HB:=zh (HB.out.trans (hb2.mono HB.out.size));clear hb2;go_wp2_with fail;refine(Hen.out w2).mono ?_;rintro e w' ⟨rfl,rfl⟩;clear Hen;obtain⟨g3,o3,rfl,hc3⟩:=HS3.out.1.ptrs (by rw[Hlen.out,HL.out.2];omega);obtain⟨W,hW⟩:∃W,w2.drew=W:=⟨_,rfl⟩
 have hbd:zB w2 W:=by rw[←hW];exact(zbr _ _).drew
 have f0:=hc3 J (by rw[Hlen.out,HL.out.2];omega);have f1:=hc3 A (by rw[Hlen.out,HL.out.2];omega);have f2:=HC.out J (by omega);rw[HQ.out.1] at f0;rw[HQ.out.2] at f1;replace HS3:=zh (zai (HS3.out.1.below hbd (zlr _)) HS3.out.2);obtain⟨hq1,hq2⟩:=HE1.out;have l0:=block_lt_of_cell f0;have l1:=block_lt_of_cell f1;have l2:=block_lt_of_cell f2;replace HB:=zh (HB.out.trans (hbd.mono HB.out.size));have q0:∀w',Ext W w'→w'.cell? ⟨g3,o3+J,none⟩=some (pt (na ps J)):=fun w' hx=>by
  rw[(hbd.trans (hx.mono hbd.size)).cell (p:=⟨g3,o3+J,none⟩) l0];exact f0
 have q3:∀w',Ext W w'→w'.cell? ⟨g3,o3+A,none⟩=some (pt p):=fun w' hx=>by
  rw[(hbd.trans (hx.mono hbd.size)).cell (p:=⟨g3,o3+A,none⟩) l1];exact f1
 have q4:∀w',Ext W w'→w'.cell? ⟨g,o+J,none⟩=some (.string (sa ks J)):=fun w' hx=>by
  rw[(HB.out.trans (hx.mono HB.out.size)).cell (p:=⟨g,o+J,none⟩) l2];exact f2
 have q5:∀w',Ext W w'→w'.cell? ⟨b,2,none⟩=some (.slice (some ⟨g,o,none⟩) n c):=fun w' hx=>((Hnb.out.ext HB.out).ext hx).c2
 have Hj:=zh (XG W (NdT.ext HB.out h hq1) (NdT.ext HB.out h Hn.out) Hk0.out (by have:=Hsz.out;omega));have HW:=zh hW;have h0m:(J:Int)<(m:Int):=by omega
 have h1m:(A:Int)<(m:Int):=by omega
 have h0n:(J:Int)<(n:Int):=by omega
 have h0m':J<m:=by omega
 have h1m':A<m:=by omega
 have h00:(0:Int)≤(J:Int):=by omega
 have h01:(0:Int)≤(A:Int):=by omega
 have z00:IntKind.i64.wrap (J:Int)=(J:Int):=by rw[IntKind.wrap_i64];omega
 have z01:IntKind.i64.wrap (A:Int)=(A:Int):=by rw[IntKind.wrap_i64];omega
 generalize na ps J=pn at*;generalize sa ks J=kk at*;clear f0 f1 f2 l0 l1 l2 hbd hc3 HQ hW HE1 hq1 HC;go_wp2_with fail;refine rgr [(0,true),(1,true),(2,true),(3,true),(4,true),(5,true),(6,true),(7,true),(8,true),(9,true),(10,true),(11,true),(12,true),(13,true),(14,true),(15,true),(16,false),(17,true)] (h:= ?_);rw[HW.out];iterate 16 (refine grr (v:= ?_) rfl (by rfl) ?_ ?_;rotate_left;(intro w' hw';go_simp;with_reducible rfl);simp only[Act.put,zs0,zs1,zs2])
 clear q0 q3 q4 q5;refine grc rfl (by rfl) (fun K hK=> ?_);go_simp;refine Hj.out.mono ?_;rintro e w3 ⟨bj,tj,rfl,hj1,hj0,hj2,hj3,hj4,hb3⟩;have Hj0:=zh hj0;refine hK _ _ hb3 ?_;clear hK K Hj;have Hk:Hid (NdT w3 h (lob lo ks J) (hib hi ks A) bj tj∧126≤tj.sz∧tj.sz≤700):=⟨hj1,by omega,by have:=Hsz.out;omega⟩
 replace HS3:=zh (zai (HS3.out.1.below hb3 (zlr _)) HS3.out.2);replace HB:=zh (HB.out.trans (hb3.mono HB.out.size));clear hj0 hj1 hj2 hj3 hj4 hb3
 (refine grr (v:= ?_) rfl (by rfl) ?_ ?_;rotate_left;(intro w' hw';go_simp;with_reducible rfl);simp only[Act.put,zs0,zs1,zs2])
 refine Yq ?_;have q1:∀w',zB w w'→w'.cell? ⟨b,2,none⟩=some (.slice (some ⟨g,o,none⟩) n c):=fun w' hx=>(Hnb.out.ext hx).c2
 have Hq1:=zh q1;clear q1;go_wp2_with fail;refine(Mq w3 Hk.out.1 Hk.out.2.1 Hk.out.2.2).mono ?_;rintro e w4 ⟨vp,vk,ks',ps',ts',rfl,⟨ap,cp,rfl,sp,zp,_⟩,⟨ak,ck,rfl,sk,zk,_⟩,hr',hfl,hk1,hb4⟩;replace HS3:=zh (zai (HS3.out.1.below hb4 (zlr _)) HS3.out.2);replace HB:=zh (HB.out.trans (hb4.mono HB.out.size));have hle':=hr'.len;have q1:=Hq1.out w4 HB.out;have HsS:=zh (yF (some ⟨g,o,none⟩) n c ks J 1 ak ks'.length ck ks' w4 HL.out.1 (HS.out.1.below HB.out (zlr _)) hnc HS.out.2.2 (fun h=>by cases h) (by omega) rfl zk sk (by omega) (by omega));have HsP:=zh (zai sp zp);have Hr':=zh hr';have Hfl:=zh hfl;obtain⟨nk,hnk⟩:∃n,ks'.length=n:=⟨_,rfl⟩
 obtain⟨np,hnp⟩:∃n,ps'.length=n:=⟨_,rfl⟩
 have HLn:=zh (zai hnk hnp);rw[hnk] at HsS hk1⊢
 rw[hnp] at⊢
 have hnp2:np≤2:=by omega
 clear hb4 hle' sp zp sk zk hr' hfl hnk hnp Hk Hn;go_wp2_with fail;refine HsS.out.mono ?_;rintro e w5 ⟨vS,rfl,⟨aS,cS,rfl,eS,rS⟩,hb5⟩;replace HS3:=zh (zai (HS3.out.1.below hb5 (zlr _)) HS3.out.2);replace HsP:=zh (zai (HsP.out.1.below hb5 (zlr _)) HsP.out.2);replace HB:=zh (HB.out.trans (hb5.mono HB.out.size));replace Hr':Hid (X8 (X2 w5 h) ks' (lob lo ks J) (hib hi ks A) ps' ts'):=Hr'.out.mono (fun _ _ _ _ hg=>X2.ext hb5 hg);have HeS:=zh (zai eS rS);have HPp:=zh (Kx (some ⟨g3,o3,none⟩) m c3 (ps.take A++([p]++ps.drop (A+1))) J 2 ap np cp ps' w5 (by rw[Hlen.out,HL.out.2]) HS3.out.1 HS3.out.2.2.1 HS3.out.2.2.2 HS3.out.2.1 (by omega) HLn.out.2 HsP.out.2 HsP.out.1 (by omega) (by omega));obtain⟨NS,hNS⟩:∃N,(ks.take J++(ks'++ks.drop (J+1))).length=N:=⟨_,rfl⟩
 have HNS:=zh hNS;rw[hNS];clear hb5 eS rS HsS hNS q1;go_wp2_with fail;refine HPp.out.mono ?_;rintro e w6 ⟨vP,rfl,⟨aP,cP,rfl,eP,rP⟩,hb6⟩;replace HeS:=zh (zai (HeS.out.1.below hb6 (zlr _)) HeS.out.2);replace HB:=zh (HB.out.trans (hb6.mono HB.out.size));replace Hr':Hid (X8 (X2 w6 h) ks' (lob lo ks J) (hib hi ks A) ps' ts'):=Hr'.out.mono (fun _ _ _ _ hg=>X2.ext hb6 hg);have HeP:=zh (zai eP rP);obtain⟨NP,hNP⟩:∃N,((ps.take A++([p]++ps.drop (A+1))).take J++(ps'++(ps.take A++([p]++ps.drop (A+1))).drop (J+2))).length=N:=⟨_,rfl⟩
 have HNP:=zh hNP;rw[hNP];clear hb6 eP rP HPp hNP HsP HS3;obtain⟨gN,wN,hgN,hwN,hnbN,hbN⟩:=Y0 w6 Z0 (.slice aS NS cS) (.slice aP NP cP);have HGN:=zh (zai hgN hwN);have HbN:=zh hbN;have HnbN:=zh hnbN;replace HB:=zh (HB.out.trans (hbN.mono HB.out.size));clear hgN hwN hnbN hbN;go_wp2;rw[HGN.out.1,HGN.out.2];go_ret;have hfin:=yN Hr.out HB.out (i:=J) (j:=A) (by omega) (by have:=HL.out.1;omega) (by have:=HAJ.out;omega) (Hr'.out.mono (fun _ _ _ _ hg=>X2.ext HbN.out hg)) (by rw[HLn.out.1];exact hk1);have hbran:K2 wN gN 0 (ks.take J++(ks'++ks.drop A)) (ps.take J++(ps'++ps.drop (A+1))):=by
  rw[←HAJ.out] at HNS HeS;refine⟨_,_,HnbN.out,⟨aS,cS,by rw[HNS.out],HeS.out.1.below HbN.out (zlr _),by rw[HNS.out];rw[HNS.out] at HeS;exact HeS.out.2⟩,?_⟩;have e3:=HeP.out;have hN2:=HNP.out;rw[yO ps p J A (by have:=HL.out.2;have:=Hle.out;omega) (by omega),yP ps p _ A (by have:=HL.out.2;have:=Hle.out;omega) (by have:=HAJ.out;omega)] at e3 hN2;rw[show J+2=A+1 by have:=HAJ.out;omega] at e3 hN2;exact⟨aP,cP,by rw[hN2],e3.1.below HbN.out (zlr _),e3.2⟩
 refine⟨gN,_,_,_,rfl,hbran,hfin.1,⟨?_,fun h0=> ?_⟩,hfin.2.1,hfin.2.2,HB.out⟩
 ·rw[Qv,Qv,Hfl.out.1,Hj0.out.1,HAJ.out,y1z (ts:=ts) (i:=J) (by have:=Hle.out;have:=HL.out.1;omega),Qv,U4];simp only[List.append_assoc]
 ·rw[HAJ.out,y1z (ts:=ts) (i:=J) (by have:=Hle.out;have:=HL.out.1;omega),←HAJ.out];have f:=(y1y Hj0.out.2.1 Hj0.out.2.2 (.inr h0)).trans (Hfl.out.2.fr Hj0.out.2.1);have f2:=((Fr.refl (ts.take J)).app (f.app (Fr.refl (ts.drop (A+1))))).mono (m:=1) (by omega);rw[List.append_assoc];exact f2
theorem z7g {h:Nat}{lo hi:SB}(b:Nat)(ks:List ByteArray)(ps:List Nat)(ts:List Tr)(A p:Nat)(t':Tr)(s':Nat)(w:World)(hb:z2f w b ks ps)(hr:X8 (X2 w h) ks lo hi ps ts)(hl1:1≤ks.length)(hbr:T8 ks≤504)(hA:A≤ks.length)(hn:NdT w h (lob lo ks A) (hib hi ks A) p t')(hsz:t'.sz=s')(hs:s'≤660):
  Calls prog 119 #[pt b,.int .i64 A,pt p] w fun e w'=>ZL w h lo hi ks ts A t' e w':=by
 rcases zng s' 126 with h1|h1
 ·rcases Nat.eq_zero_or_pos A with h0|h0
  ·subst h0;exact z0t b ks ps ts p t' s' w hb hr hl1 hbr hn hsz h1
  ·exact z29 b ks ps ts A (A-1) p t' s' w hb hr hl1 hbr (by omega) hA hn hsz h1
 ·exact yR b ks ps ts A p t' s' w hb hr hl1 hbr hA hn hsz h1 hs
end Go.Proofs.YtdgladhfibfdlaaGreatDoor
