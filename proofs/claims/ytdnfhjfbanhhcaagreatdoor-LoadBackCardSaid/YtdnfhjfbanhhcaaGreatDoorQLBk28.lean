/-
  Steps.
-/
import Derived.Test.YtdnfhjfbanhhcaaGreatDoorQLBk26
import Derived.Test.YtdnfhjfbanhhcaaGreatDoorQLBk27
namespace Go.Proofs.YtdnfhjfbanhhcaaGreatDoor
open Go Go.RowKit
theorem y7g (b:Nat)(vc vk:Value)(a:Option Addr)(c:Nat)(w:World)(hb:NB w b vc vk (.slice a 0 c)):Calls Tryz.prog 43 #[pt b] w fun e w'=>e=.returned (.bool true)∧w=w':=by
 have q2:=hb.c3;clear hb
 go_enter Tryz.func43,Tryz.ntmps43
 go_wp2;go_ret;exact⟨rfl,rfl⟩
def x5f (w:World)(f:Nat):Nat→Nat→Prop
 | 0,r=>r=f
 | k+1,r=>∃vc vk g o c r',NB w r vc vk (.slice (some ⟨g,o,none⟩) 1 c)∧w.cell? ⟨g,o,none⟩=some (pt r')∧x5f w f k r'
set_option maxRecDepth 100000 in
theorem y7h (b:Nat)(w:World)(R:World→Nat→Nat→Nat→Prop)
  (H:Calls Tryz.prog 109 #[pt b] w fun e w1=>∃a1 n1 c1 a2 n2 c2,e=.returned (.tuple #[.slice a1 n1 c1,.slice a2 n2 c2])∧Below w.heap.size w w1∧
   ∀g W,NP W g 0 nilS (.slice a2 n2 c2) (.slice a1 n1 c1)→Below w1.heap.size w1 W→∃k f ac nc cc vk a nk c,x5f W f k g∧NB W f (.slice ac nc cc) vk (.slice a nk c)∧nk≠1∧R W f nk nc):
  Calls Tryz.prog 76 #[pt b] w fun e w'=>Below w.heap.size w w'∧∃f nk nc,R w' f nk nc∧e=.returned (if nk=0∧nc=0 then .pointer none else pt f):=by
 have H1:=zh H;clear H
 go_enter Tryz.func76,Tryz.ntmps76
 go_wp2_with fail;refine H1.out.mono ?_;rintro e w1 ⟨a1,n1,c1,a2,n2,c2,rfl,hb1,hR⟩;obtain⟨gR,W,hgR,hW,hnb,hb2⟩:=z0r w1 nilS (.slice a2 n2 c2) (.slice a1 n1 c1);obtain⟨k,f,ac,nc,cc,vk,a,nk,c,hst,hf,hne,hr⟩:=hR gR W hnb hb2;have HG:=zh (zai hgR hW);have HB:=zh (hb1.trans (hb2.mono hb1.size));have Hst:=zh hst;have Hf:=zh hf;have Hr:=zh hr;have d1:((nk:Int)==1)=false:=by rw[beq_eq_false_iff_ne];omega
 clear hb1 hb2 hR hgR hW hnb hst hf hr H1 hne;go_wp2_with fail;rw[HG.out.1,HG.out.2]
 go_loopg [5] k (fun j u wr=>∃r,u=pt r∧Hid (x5f W f j r)∧W=wr)
 case atStart=>exact⟨gR,rfl,Hst,by first|trivial|rfl⟩
 case round=>
  obtain⟨r,rfl,hs,rfl⟩:=hrel
  cases gk with
  | zero=>
   obtain rfl:r=f:=hs.out;have q2:=Hf.out.c3;have q0:=Hf.out.c1
   rcases Nat.eq_zero_or_pos nk with h0|h0
   ·subst h0;have hil:=zh (y7g r _ _ _ _ W Hf.out)
    by_cases hn0:nc=0
    ·subst hn0;go_wp2_with fail;refine hil.out.mono ?_;rintro e w' ⟨rfl,rfl⟩;go_wp2;go_ret;exact⟨HB.out,r,0,0,Hr.out,by rw[if_pos ⟨rfl,rfl⟩];rfl⟩
    ·have d2:((nc:Int)==0)=false:=by rw[beq_eq_false_iff_ne];omega
     go_wp2_with fail;refine hil.out.mono ?_;rintro e w' ⟨rfl,rfl⟩;go_wp2;go_ret;exact⟨HB.out,r,0,nc,Hr.out,by rw[if_neg (fun h=>hn0 h.2)];rfl⟩
   ·have hil:=zh (z3w r _ _ _ _ _ W Hf.out h0);go_wp2_with fail;refine hil.out.mono ?_;rintro e w' ⟨rfl,rfl⟩;go_wp2;go_ret;exact⟨HB.out,r,nk,nc,Hr.out,by rw[if_neg (fun h=>by omega)];rfl⟩
  | succ j=>
   obtain⟨vc,vk2,g,o,c9,r',hn,hc,hs'⟩:=hs.out;have q2:=hn.c3;have Hs:=zh hs';clear hn hs hs';go_wp2_with fail
   go_roundg j
   case measure=>omega
   case rel=>exact⟨r',rfl,Hs,by first|trivial|rfl⟩
def z79 (h:Nat)(t:Tr)(ts:List Tr)(H:Nat):Prop:=t.pg=0→Fr [t] ts 2∧nwL ts+2*h≤nwL t.kids+2*H
def q0l (h:Nat)(t:Tr)(W:World)(f nk nc:Nat):Prop:=(nk=0∧nc=0→t.es=[]∧h=0)∧
 (¬(nk=0∧nc=0)→∃h2 t2,NdT W h2 none none f t2∧t2.sz≤504∧(0<h2→3≤t2.sz)∧t2.es≠[]∧t2.es=t.es∧z79 h t [t2] (h2+1))
def Fin (h:Nat)(t:Tr)(W:World)(f:Nat):Prop:=∃ac nc cc vk a nk c,NB W f (.slice ac nc cc) vk (.slice a nk c)∧nk≠1∧q0l h t W f nk nc
theorem y20 {W:World}{h0 h f:Nat}{t:Tr}{pg:Nat}{ks:List ByteArray}{ps:List Nat}{ts:List Tr}(hb:z5g W f pg ks ps)(hr:KRow (z09 W h) ks none none ps ts)(h1:1≤ks.length)(hs:brSz ks≤504)(he:esL ts=t.es)(hf:z79 h0 t [.bran pg ks ts] (h+1+1)):Fin h0 t W f:=by
 have hle:=hr.len;have hc:=KRow.count (m:=1) (fun lo hi p e hg=>Nat.le_trans (by have:=Nat.one_le_two_pow (n:=0);have:1≤4^h:=Nat.one_le_pow _ _ (by omega);omega) (Good.count h lo hi p e hg)) hr.good;have hk:=z0u hr.factsT.2.2.2;have hb':=hb;obtain⟨vk,vp,nb,⟨a0,c0,rfl,_⟩,⟨a1,c1,rfl,_⟩⟩:=hb;refine⟨_,_,_,_,_,_,_,nb.nb,by omega,fun h=>by omega,fun _=>⟨h+1,.bran pg ks ts,z6m.2 ⟨pg,ks,ps,ts,rfl,hb',hr⟩,hs,fun _=>by simp only[Tr.sz];unfold brSz;omega,fun h=> ?_,by simp only[Tr.es];exact he,hf⟩⟩;simp only[Tr.es] at h;rw[z2i] at h;rw[h] at hc;simp at hc
theorem x8y {W:World}{h0 h f:Nat}{t t2:Tr}(hg:z09 W h none none f t2)(he:t2.es=t.es)(hf:z79 h0 t [t2] (h+1)):Fin h0 t W f:=by
 have hc:=Good.count h _ _ _ _ hg.good;have h1:1≤4^h:=Nat.one_le_pow _ _ (by omega);obtain⟨hn,h126,h504⟩:=hg
 cases h with
 | zero=>
  have hn':=hn;obtain⟨pg,es,rfl,⟨vc,nb,a0,c0,rfl,_⟩,_⟩:=hn;simp only[Tr.es] at hc;exact⟨_,_,_,_,_,_,_,nb.nb,by omega,fun h=>by omega,fun _=>⟨0,_,hn',h504,fun _=>by omega,fun h=>by simp only[Tr.es] at h;rw[h] at hc;simp at hc,he,hf⟩⟩
 | succ h=>
  obtain⟨pg,ks,ps,ts,rfl,hb,hr⟩:=hn;have hk:=z0u hr.factsT.2.2.2;simp only[Tr.sz] at h126 h504;exact y20 hb hr (by unfold brSz at h126;omega) h504 (by simp only[Tr.es] at he;exact he) hf
theorem x08 {h b:Nat}{t:Tr}(w:World)(hn:NdT w h none none b t)(hs:t.sz≤660):
  Calls Tryz.prog 76 #[pt b] w fun e w'=>∃p ts H,e=.returned (.pointer p)∧z0y w' p ts H∧esL ts=t.es∧z79 h t ts H∧Below w.heap.size w w':=by
 refine(y7h b w (q0l h t) ?_).mono ?_
 ·rcases zng 504 t.sz with h3|h3
  ·refine(z37 w hn (by omega) (by omega)).mono ?_;rintro e w1 ⟨vp,vk,ks',ps',ts',rfl,⟨ap,cp,rfl,sp,zp,rp⟩,⟨ak,ck,rfl,sk,zk,rk⟩,hr,⟨hfl,hhv⟩,hk1,hb1⟩;refine⟨_,_,_,_,_,_,rfl,hb1,fun g W hg hW=> ?_⟩;have hr':KRow (z09 W h) ks' none none ps' ts':=hr.mono (fun _ _ _ _ hx=>z09.ext hW hx);have hbr:z5g W g 0 ks' ps':=⟨_,_,hg,⟨ak,ck,rfl,sk.below hW (zlr _),zk,rk⟩,⟨ap,cp,rfl,sp.below hW (zlr _),zp,rp⟩⟩
   have hle:=hr.len
   cases ks' with
   | nil=>
    exfalso
    rcases hhv with ⟨h4,_⟩|⟨_,⟨_,_,_,_,rfl⟩|⟨_,_,_,_,_,rfl⟩⟩
    ·omega
    ·simp at hle
    ·simp at hle
   | cons k r=>
    have hko:=z0u hr'.factsT.2.2.2;have hfr:z79 h t [.bran 0 (k::r) ts'] (h+1+1):=fun h0=>by
     have f1:=hhv.fr h0;have f2:Fr [t] [.bran 0 (k::r) ts'] (1+1):=f1.new rfl;have f3:=f2.nw;have f4:=x3r h0;simp only[nwL] at f3;simp only[nwL];exact⟨f2,by omega⟩
    obtain⟨ac,nc,cc,vk,a,nk,c,h1,h2,h4⟩:=y20 hbr hr' (by simp) (by unfold brSz;omega) hfl hfr;exact⟨0,g,ac,nc,cc,vk,a,nk,c,rfl,h1,h2,h4⟩
  ·refine(z9r b t.sz w h3 (z3x w (NdT.nd h hn) (by omega))).mono ?_;rintro e w1 ⟨vp,rfl,⟨ap,cp,rfl,sp,zp,rp⟩,hb1⟩;refine⟨_,_,_,_,_,_,rfl,hb1,fun g W hg hW=> ?_⟩;obtain⟨g2,o2,rfl,hc2⟩:=(sp.below hW (zlr _)).ptrs (by simp);have hst:∀k f,x5f W f k b→x5f W f (k+1) g:=fun k f hx=>⟨_,_,g2,o2,_,b,hg.nb,hc2 0 (by simp),hx⟩
   have hbW:=hb1.trans (hW.mono hb1.size);have hnW:=NdT.ext hbW h hn;have hself:z79 h t [t] (h+1):=fun h0=>by
    have f4:=x3r h0;simp only[nwL];exact⟨(Fr.refl _).mono (by omega),by omega⟩
   cases h with
   | zero=>
    have hn':=hnW;obtain⟨pg,es,rfl,⟨vc,nb,a0,c0,rfl,_⟩,_⟩:=hnW;refine⟨1,b,_,_,_,_,_,_,_,hst 0 b rfl,nb.nb,by omega,fun h=>⟨by simp only[Tr.es];exact List.eq_nil_of_length_eq_zero h.2,rfl⟩,fun h=>⟨0,_,hn',h3,fun h=>by omega,fun h5=>h ⟨rfl,by simp only[Tr.es] at h5;rw[h5];rfl⟩,rfl,hself⟩⟩
   | succ h=>
    obtain⟨pg,ks,ps,ts,rfl,hbr,hr⟩:=hnW
    cases ks with
    | nil=>
     obtain⟨p,t2,rfl,rfl,hgd⟩:=hr;obtain⟨vk,vp,nb,_,⟨a1,c1,rfl,s1,_⟩⟩:=hbr;obtain⟨g3,o3,rfl,hc3⟩:=s1.ptrs (by simp);have hfr:z79 (h+1) (.bran pg [] [t2]) [t2] (h+1):=fun h0=>by
      simp only[Tr.kids];exact⟨(q2x rfl).mono (by omega),by omega⟩
     obtain⟨ac,nc,cc,vk,a,nk,c,h1,h2,h4⟩:=x8y (t:=.bran pg [] [t2]) hgd (by simp only[Tr.es];rw[z1s]) hfr;exact⟨2,p,ac,nc,cc,vk,a,nk,c,hst 1 p ⟨_,_,g3,o3,_,p,nb.nb,hc3 0 (by simp),rfl⟩,h1,h2,h4⟩
    | cons k r=>
     obtain⟨ac,nc,cc,vk,a,nk,c,h1,h2,h4⟩:=y20 (t:=.bran pg (k::r) ts) hbr hr (by simp) h3 (by simp only[Tr.es]) hself;exact⟨1,b,ac,nc,cc,vk,a,nk,c,hst 0 b rfl,h1,h2,h4⟩
 ·rintro e w' ⟨hb,f,nk,nc,hr,rfl⟩
  by_cases h0:nk=0∧nc=0
  ·rw[if_pos h0];obtain⟨h5,h6⟩:=hr.1 h0;refine⟨none,[],0,rfl,.inl ⟨rfl,rfl,rfl⟩,by rw[h5];rfl,fun h7=>⟨⟨fun p=>by simp[pgsL],by simp[nwL],fun _ _=>trivial⟩,?_⟩,hb⟩;simp only[nwL];omega
  ·rw[if_neg h0];obtain⟨h2,t2,h4,h5,h6,h7,h8,h9⟩:=hr.2 h0;exact⟨some ⟨f,0,none⟩,[t2],h2+1,rfl,.inr ⟨f,h2,t2,rfl,rfl,h4,h5,h6,h7,rfl⟩,by rw[z1s];exact h8,h9,hb⟩
def TB (w:World)(b:Nat)(p:Option Addr)(n:Int):Prop:=w.heap[b]? =some (.cells #[.pointer p,.int .i64 n] TT (0,0))
section
variable {w:World} {b:Nat} {p:Option Addr} {n:Int}
theorem TB.c0 (h:TB w b p n):w.cell? ⟨b,0,none⟩=some (.pointer p):=by
 have h':w.heap[b]? =_:=h;simp[World.cell?,h']
theorem TB.c1 (h:TB w b p n):w.cell? ⟨b,1,none⟩=some (.int .i64 n):=by
 have h':w.heap[b]? =_:=h;simp[World.cell?,h']
theorem TB.fz (h:TB w b p n)(j:Nat):w.frozen? ⟨b,j,none⟩=false:=by
 have h':w.heap[b]? =_:=h;simp[World.frozen?,h']
theorem TB.lt (h:TB w b p n):b<w.heap.size:=(zag.1 h).1
theorem TB.ext {w':World}(h:TB w b p n)(hb:Below w.heap.size w w'):TB w' b p n:=(hb.block b h.lt).trans h
theorem TB.turn {w':World}{F:Nat→Prop}(h:TB w b p n)(t:Turn F w w')(hF:¬F b):TB w' b p n:=t.hg h hF
theorem TB.put (h:TB w b p n)(q:Option Addr)(m:Int):TB ((w.setCell ⟨b,0,none⟩ (.pointer q)).setCell ⟨b,1,none⟩ (.int .i64 m)) b q m:=
 heap_setCell_same _ b 1 _ _ _ (heap_setCell_same w b 0 _ _ _ h)
end
def vty (T:TypeId):Bool:= !(T==ET||T==RET||T==9||T==PNT||T==NT||T==VT||T==TCT||T==3)
def TF (w:World)(F:Nat→Prop):Prop:=∀b,F b→∃A T fz,w.heap[b]? =some (.cells A T fz)∧vty T=true
section
variable {w w':World} {F:Nat→Prop}
theorem TF.var {b:Nat}{A:Array Value}{T:TypeId}{fz:Nat×Nat}(h:w.heap[b]? =some (.cells A T fz))(hT:vty T=true:=by decide):TF w (fun i=>i=b):=fun _ e=>⟨A,T,fz,e▸h,hT⟩
theorem TF.one {b:Nat}{q:Option Addr}{n:Int}(h:TB w b q n):TF w (fun i=>i=b):=TF.var (h:w.heap[b]? =_)
theorem TF.not {b:Nat}{A:Array Value}{T:TypeId}{fz:Nat×Nat}(hF:TF w F)(h:w.heap[b]? =some (.cells A T fz))(hT:vty T=false):¬F b:=fun hb=>by
 obtain⟨A',T',fz',h2,h3⟩:=hF b hb;rw[h] at h2;injection h2 with h2
 injection h2 with _ h2 _
 rw[←h2,hT] at h3
 cases h3
theorem NP.turn {b pg:Nat}{vc vk vp:Value}(h:NP w b pg vc vk vp)(t:Turn F w w')(hF:TF w F):NP w' b pg vc vk vp:=h.elim fun T h'=>⟨T,h'.1,t.hg h'.2 (hF.not h'.2 (by
 have h1:(T==NT||T==VT)=true:=h'.1;simp only[Bool.or_eq_true,beq_iff_eq] at h1
 rcases h1 with rfl|rfl<;>decide))⟩
theorem ES.turn {α:Type}{E:Elt α}{a:Option Addr}{l:List α}(hE:∀T,E.ty T=true→vty T=false)(h:ES E w a l)(t:Turn F w w')(hF:TF w F):ES E w' a l:=by
 rcases h with h|⟨g,o,rfl,⟨A,T,fz,ht,hT⟩,hc⟩
 ·exact .inl h
 ·have hg:¬F g:=hF.not ht (hE T hT);refine .inr ⟨g,o,rfl,⟨A,T,fz,t.hg ht hg,hT⟩,fun j u hu=> ?_⟩;have h1:=hc j u hu;rw[t.cell (p:=⟨g,o+j,none⟩) (block_lt_of_cell h1) hg];exact h1
theorem y9f:∀T,entE.ty T=true→vty T=false:=fun T h=>by
 have h':(T==ET||T==RET)=true:=h;unfold vty;rw[h'];rfl
theorem z5a:∀T,strE.ty T=true→vty T=false:=fun T h=>by
 have h':(T==9)=true:=h;unfold vty;rw[h'];simp
theorem y21:∀T,ptrE.ty T=true→vty T=false:=fun T h=>by
 have h':(T==PNT)=true:=h;unfold vty;rw[h'];simp
theorem x8z:∀T,celE.ty T=true→vty T=false:=fun T h=>by
 have h':(T==TCT)=true:=h;unfold vty;rw[h'];simp
theorem z7o:∀T,pgE.ty T=true→vty T=false:=fun T h=>by
 have h':(T==3)=true:=h;unfold vty;rw[h'];simp
theorem EV.turn {α:Type}{E:Elt α}{v:Value}{l:List α}(hE:∀T,E.ty T=true→vty T=false)(h:EV E w v l)(t:Turn F w w')(hF:TF w F):EV E w' v l:=by
 obtain⟨a,c,rfl,hs,h1⟩:=h;exact⟨a,c,rfl,hs.turn hE t hF,h1⟩
theorem RW.turn (t:Turn F w w')(hF:TF w F):∀{xs:List Rw} {es:List En},RW w xs es→RW w' xs es
 | [],[],_=>trivial
 | _::_,_::_,h=>⟨⟨h.1.1,h.1.2.1,h.1.2.2.turn z7o t hF⟩,RW.turn t hF h.2⟩
 | [],_::_,h=>h.elim
 | _::_,[],h=>h.elim
theorem CS.turn {a:Option Addr}{es:List En}(h:CS w a es)(t:Turn F w w')(hF:TF w F):CS w' a es:=by
 obtain⟨xs,h1,h2⟩:=h;exact⟨xs,h1.turn x8z t hF,h2.turn t hF⟩
theorem CV.turn {v:Value}{es:List En}(h:CV w v es)(t:Turn F w w')(hF:TF w F):CV w' v es:=by
 obtain⟨a,c,rfl,hs,h1⟩:=h;exact⟨a,c,rfl,hs.turn t hF,h1⟩
theorem NdT.turn (t:Turn F w w')(hF:TF w F):∀(h:Nat) {lo hi:SB} {b:Nat} {u:Tr},NdT w h lo hi b u→NdT w' h lo hi b u
 | 0,_,_,_,_,⟨pg,es,h0,⟨vc,h1,h2⟩,h3⟩=>⟨pg,es,h0,⟨vc,h1.turn t hF,h2.turn t hF⟩,h3⟩
 | h+1,_,_,_,_,⟨pg,ks,ps,ts,h0,⟨vk,vp,h1,h2,h3⟩,h4⟩=>
  ⟨pg,ks,ps,ts,h0,⟨vk,vp,h1.turn t hF,h2.turn z5a t hF,h3.turn y21 t hF⟩,h4.mono (fun _ _ _ _ ⟨h7,h8⟩=>⟨NdT.turn t hF h h7,h8⟩)⟩
theorem z0y.turn {p:Option Addr}{ts:List Tr}{H:Nat}(h:z0y w p ts H)(t:Turn F w w')(hF:TF w F):z0y w' p ts H:=by
 rcases h with h|⟨b,h,u,h1,h0,h2,h3⟩
 ·exact .inl h
 ·exact .inr ⟨b,h,u,h1,h0,NdT.turn t hF h h2,h3⟩
end
theorem z0m (W:World)(b:Nat)(u v:Value):Turn (fun i=>i=b) W ((W.setCell ⟨b,0,none⟩ u).setCell ⟨b,1,none⟩ v):=
 ((Turn.refl (fun i=>i=b) W).setCell (p:=⟨b,0,none⟩) u (fun _=>rfl)).setCell (p:=⟨b,1,none⟩) v (fun _=>rfl)
theorem z1m {w0 W:World}{b:Nat}{u v:Value}(h:Below w0.heap.size w0 W)(hb:w0.heap.size≤b):Below w0.heap.size w0 ((W.setCell ⟨b,0,none⟩ u).setCell ⟨b,1,none⟩ v):=
 (h.setCell (p:=⟨b,0,none⟩) hb u).setCell (p:=⟨b,1,none⟩) hb v
theorem q47 {a ts':List Tr}{t2:Tr}{h H:Nat}(h1:Fr a t2.kids (2*h))(h2:t2.pg=0)(h3:z79 h t2 ts' H):Fr a ts' (2*H):=by
 obtain⟨h4,h5⟩:=h3 h2;have h6:=(h1.new h2).trans h4;have h7:=h1.nw;exact⟨h6.pg,by omega,h6.on⟩
set_option maxRecDepth 100000 in
theorem y7i (p:Option Addr)(ts:List Tr)(n0 m n1:Int)(key:ByteArray)(a:Option Addr)(n c:Nat)(o:List En)(w:World)(hkey:oneO key o)(hoE:∀x∈o,okE x)
  (hno:o.length=n) (hz:a=none→c=0) (hes:CS w a o) (H:Nat) (ht:z0y w p ts H) (hm:IntKind.i64.wrap (n0+m)=n1):
  Calls Tryz.prog 47 #[.agg #[.pointer p,.int .i64 n0],.int .i64 m,.string key,.slice a n c] w fun e w'=>∃p' ts' H',e=.returned (.agg #[.pointer p',.int .i64 n1])∧z0y w' p' ts' H'∧(esL ts'=rep (esL ts) key o∧Fr ts ts' (2*H'))∧Below w.heap.size w w':=by
 --the node at which it begins
 obtain⟨W1,hW1,hT1,hb1⟩:=z0b w TT #[.pointer p,.int .i64 n0];obtain⟨W2,hW2,hT2,hb2⟩:=z0b W1 TT #[.pointer none,.int .i64 0];have hs1:W1.heap.size=w.heap.size+1:=by rw[←hW1];simp
 have hb12:=hb1.trans (hb2.mono hb1.size);have hT1':TB W2 w.heap.size p n0:=TB.ext (w:=W1) hT1 hb2;have hT2':TB W2 (w.heap.size+1) none 0:=by rw[←hs1];exact hT2
 have main:∀(W3:World) (bn h:Nat) (t:Tr),Below W2.heap.size W2 W3→NdT W3 h none none bn t→t.sz≤504→(0<h→3≤t.sz)→t.es=esL ts→(∀u,Fr t.kids u (2*h)→Fr ts u (2*h))→
   ∃W,W3.drew=W∧Below W2.heap.size W2 W∧Calls Tryz.prog 77 #[pt bn,.string key,.slice a n c] W (fun e w'=>∃b2,e=.returned (pt b2)∧Below W.heap.size W w'∧
    Calls Tryz.prog 76 #[pt b2] w' fun e w''=>∃p ts' H,e=.returned (.pointer p)∧z0y w'' p ts' H∧(esL ts'=rep (esL ts) key o∧Fr ts ts' (2*H))∧Below w'.heap.size w' w''):=fun W3 bn h t hb3 hn hs hs3 hte htk=>by
  have hbd:Below W3.heap.size W3 W3.drew:=(zbr _ _).drew;have hbx:=hb3.trans (hbd.mono hb3.size);refine⟨_,rfl,hbx,?_⟩;have hby:=hb12.trans (hbx.mono hb12.size);refine(z78 h bn t key a n c o W3.drew (NdT.ext hbd h hn) hs hs3 (y9d key) hkey hoE hno hz (hes.below hby (zlr _))).mono ?_;rintro e w' ⟨b2,t2,rfl,hn2,⟨he2,hp2,hf2⟩,hs2,_,hb⟩;refine⟨b2,rfl,hb,(x08 w' hn2 (by omega)).mono ?_⟩;rintro e w'' ⟨p,ts',H,rfl,ht,he,hf,hb2⟩;exact⟨p,ts',H,rfl,ht,⟨by rw[he,he2,hte],q47 (htk _ hf2) hp2 hf⟩,hb2⟩
 have Main:=zh main;have HW:=zh (zai hW1 hW2);have HT:=zh (zai hT1' hT2');have HB:=zh hb12;have Hs1:=zh hs1;have tail:∀(W3 W:World) (bn:Nat),W3.drew=W→Below W2.heap.size W2 W→
   Hid (∀w' w'',Below W.heap.size W w'→Below w'.heap.size w' w''→Below w.heap.size w w''∧TB w'' (w.heap.size+1) none 0):=fun W3 W bn _ hbW w' w'' h1 h2=>by
  have h3:=h1.trans (h2.mono h1.size);have h4:=hbW.trans (h3.mono hbW.size);exact⟨hb12.trans (h4.mono hb12.size),hT2'.ext h4⟩
 have Tail:=zh tail;clear main tail hW1 hW2 hT1 hT2 hb1 hb2 hb12 hT1' hT2' hs1 hkey hoE hno hz hes
 rcases ht with ⟨rfl,rfl,_⟩|⟨bn,h,t,rfl,rfl,hn,hs,hs3,_⟩
 ·obtain⟨W3,hW3,hT3,hb3⟩:=z0b W2 NT #[.int .i64 0,nilS,nilS,nilS];have hnd:NdT W3 0 none none W2.heap.size (.leaf 0 []):=⟨0,[],rfl,⟨nilS,⟨NT,rfl,hT3⟩,CV.none _⟩,trivial,List.Pairwise.nil,fun x hx=>(by cases hx)⟩
  obtain⟨W,hW,hbW,hcall⟩:=Main.out W3 W2.heap.size 0 (.leaf 0 []) hb3 hnd (by decide) (fun h=>by omega) rfl (fun _ h=>h);have Ht:=zh (Tail.out W3 W W2.heap.size hW hbW).out;have hs2:W2.heap.size=w.heap.size+1+1:=by rw[←HW.out.2];simp[Hs1.out]
  have q:∀w',Turn (fun i=>i=w.heap.size+1) W w'→w'.cell? ⟨w.heap.size,1,none⟩=some (.int .i64 n0):=fun w' t=>((HT.out.1.ext hbW).turn t (by omega)).c1
  have Hcall:=zh hcall;have HW3:Hid ((((w.alloc (.cells #[.pointer none,.int .i64 n0] TT)).alloc (.cells #[.pointer none,.int .i64 0] TT)).alloc (.cells #[.int .i64 0,nilS,nilS,nilS] NT)).drew=W):=by
   show _=_;rw[HW.out.1,HW.out.2,hW3,hW]
  rw[hs2] at Hcall;clear hW3 hT3 hb3 hnd hW hbW hcall Main Tail HT hs2 HW HB Hs1
  go_enter Tryz.func47,Tryz.ntmps47
  go_wp2_with fail;refine z0k (F:=fun i=>i=w.heap.size+1) [(0,true),(1,true),(2,true),(5,true),(6,true),(7,true),(8,true),(3,false),(4,false),(9,true),(10,false)] (by kernel_rfl) (by kernel_rfl) (by kernel_rfl) (by kernel_rfl) (fun _ _ _ _ _ h=>h) ?_;rw[HW3.out];iterate 7 (refine gtr (v:= ?_) rfl (by rfl) ?_ ?_;rotate_left;(intro w' hw';go_simp;with_reducible rfl);simp only[Act.put,zs0,zs1,zs2])
  clear q;refine gtc rfl (by rfl) (fun K hK=> ?_);go_simp;refine Hcall.out.mono ?_;rintro e w4 ⟨b2,rfl,hb4,hc4⟩;refine hK _ _ (q5w hb4) ?_;clear hK K Hcall;have Hc4:=zh hc4;have Hb4:=zh hb4;clear hc4 hb4;refine gtc rfl (by rfl) (fun K hK=> ?_);go_simp;refine Hc4.out.mono ?_;rintro e w5 ⟨p5,ts5,H5,rfl,ht5,hf5,hb5⟩;have HF5:=zh hf5;refine hK _ _ (q5w hb5) ?_;clear hK K Hc4;have hfin:=Ht.out w4 w5 Hb4.out hb5;have HT5:=zh (ht5.turn (z0m w5 (w.heap.size+1) (.pointer p5) (.int .i64 n1)) (TF.one hfin.2));have HF:=zh hfin.1;have c0:=hfin.2.c0;have c1:=hfin.2.c1;have f0:=hfin.2.fz 0;have f1:=hfin.2.fz 1;have HP:=zh (hfin.2.put p5 n1);clear hfin ht5 hf5 hb5 Hb4 Ht
  (refine gtr (v:= ?_) rfl (by rfl) ?_ ?_;rotate_left;(intro w' hw';go_simp;with_reducible rfl);simp only[Act.put,zs0,zs1,zs2])
  refine gtc rfl (by rfl) (fun K hK=> ?_);go_simp;refine hK _ _ (z0m _ _ _ _) ?_;clear hK K;refine z0z ?_;have d0:=HP.out.c0;have d1:=HP.out.c1;go_wp2_with fail;refine bodyPost_ret (v:=.agg #[.pointer p5,.int .i64 n1]) (by rw[z0c rfl];go_simp) rfl ⟨p5,ts5,H5,rfl,HT5.out,HF5.out,z1m HF.out (by omega)⟩
 ·have hn2:=NdT.ext HB.out h hn;obtain⟨W,hW,hbW,hcall⟩:=Main.out W2 bn h t (zbr _ _) hn2 hs hs3 (z1s t).symm (fun u hu=>by have:=(Fr.kids t).trans hu;rwa [Nat.zero_add] at this);have Ht:=zh (Tail.out W2 W bn hW hbW).out;have q:∀w',Turn (fun i=>i=w.heap.size+1) W w'→w'.cell? ⟨w.heap.size,1,none⟩=some (.int .i64 n0):=fun w' t=>((HT.out.1.ext hbW).turn t (by omega)).c1
  have Hcall:=zh hcall;have HW3:Hid (((w.alloc (.cells #[.pointer (some ⟨bn,0,none⟩),.int .i64 n0] TT)).alloc (.cells #[.pointer none,.int .i64 0] TT)).drew=W):=by
   show _=_;rw[HW.out.1,HW.out.2,hW]
  clear hW hbW hcall Main Tail HT HW HB Hs1 hn hn2 hs hs3
  go_enter Tryz.func47,Tryz.ntmps47
  go_wp2_with fail;refine z0k (F:=fun i=>i=w.heap.size+1) [(0,true),(1,true),(2,true),(5,true),(6,true),(7,true),(8,true),(3,false),(4,false),(9,true),(10,false)] (by kernel_rfl) (by kernel_rfl) (by kernel_rfl) (by kernel_rfl) (fun _ _ _ _ _ h=>h) ?_;rw[HW3.out];iterate 7 (refine gtr (v:= ?_) rfl (by rfl) ?_ ?_;rotate_left;(intro w' hw';go_simp;with_reducible rfl);simp only[Act.put,zs0,zs1,zs2])
  clear q;refine gtc rfl (by rfl) (fun K hK=> ?_);go_simp;refine Hcall.out.mono ?_;rintro e w4 ⟨b2,rfl,hb4,hc4⟩;refine hK _ _ (q5w hb4) ?_;clear hK K Hcall;have Hc4:=zh hc4;have Hb4:=zh hb4;clear hc4 hb4;refine gtc rfl (by rfl) (fun K hK=> ?_);go_simp;refine Hc4.out.mono ?_;rintro e w5 ⟨p5,ts5,H5,rfl,ht5,hf5,hb5⟩;have HF5:=zh hf5;refine hK _ _ (q5w hb5) ?_;clear hK K Hc4;have hfin:=Ht.out w4 w5 Hb4.out hb5;have HT5:=zh (ht5.turn (z0m w5 (w.heap.size+1) (.pointer p5) (.int .i64 n1)) (TF.one hfin.2));have HF:=zh hfin.1;have c0:=hfin.2.c0;have c1:=hfin.2.c1;have f0:=hfin.2.fz 0;have f1:=hfin.2.fz 1;have HP:=zh (hfin.2.put p5 n1);clear hfin ht5 hf5 hb5 Hb4 Ht
  (refine gtr (v:= ?_) rfl (by rfl) ?_ ?_;rotate_left;(intro w' hw';go_simp;with_reducible rfl);simp only[Act.put,zs0,zs1,zs2])
  refine gtc rfl (by rfl) (fun K hK=> ?_);go_simp;refine hK _ _ (z0m _ _ _ _) ?_;clear hK K;refine z0z ?_;have d0:=HP.out.c0;have d1:=HP.out.c1;go_wp2_with fail;refine bodyPost_ret (v:=.agg #[.pointer p5,.int .i64 n1]) (by rw[z0c rfl];go_simp) rfl ⟨p5,ts5,H5,rfl,HT5.out,HF5.out,z1m HF.out (by omega)⟩
structure NoV where
 pg:Nat
 ca:Option Addr
 cn:Nat
 cc:Nat
 ka:Option Addr
 kn:Nat
 kc:Nat
 pa:Option Addr
 pn:Nat
 pc:Nat
instance :Inhabited NoV:=⟨⟨0,none,0,0,none,0,0,none,0,0⟩⟩
abbrev NoV.c (v:NoV):Value:=.slice v.ca v.cn v.cc
abbrev NoV.k (v:NoV):Value:=.slice v.ka v.kn v.kc
abbrev NoV.p (v:NoV):Value:=.slice v.pa v.pn v.pc
abbrev NoV.v (v:NoV):Value:=.agg #[.int .i64 (v.pg:Nat),v.c,v.k,v.p]
def nodE:Elt NoV:=⟨4,80,.agg #[.int .i64 0,nilS,nilS,nilS],fun v=> [.int .i64 (v.pg:Nat),v.c,v.k,v.p],fun _=>rfl,fun e u hu=>by
 simp only[List.mem_cons,List.not_mem_nil,or_false] at hu;rcases hu with rfl|rfl|rfl|rfl<;>rfl,by decide,rfl,fun T=>T==VT⟩
theorem q48:(Tryz.prog.info? VT).map (fun i=>(i.zero,i.size,i.bytes))=some (some nodE.zero,nodE.sz,nodE.by_):=by kernel_rfl
def va (l:List NoV)(i:Nat):NoV:=l.getD i default
def NPv (w:World)(b:Nat)(v:NoV):Prop:=NP w b v.pg v.c v.k v.p
theorem ES.nods {w:World}{a:Option Addr}{l:List NoV}(h:ES nodE w a l)(h0:0<l.length):∃g o,a=some ⟨g,o,none⟩∧∀i,i<l.length→w.cell? ⟨g,o+i*4,none⟩=some (.int .i64 ((va l i).pg:Nat))∧w.cell? ⟨g,o+i*4+1,none⟩=some (va l i).c∧w.cell? ⟨g,o+i*4+2,none⟩=some (va l i).k∧w.cell? ⟨g,o+i*4+3,none⟩=some (va l i).p:=by
 obtain⟨g,o,rfl,hc⟩:=h.at h0;refine⟨g,o,rfl,fun i hi=> ?_⟩;have e:l[i]? =some (va l i):=by unfold va;simp[List.getD,hi]
 have h0:=hc (i*4+0) _ (nodE.row_at l i 0 _ e (by decide));have h1:=hc (i*4+1) _ (nodE.row_at l i 1 _ e (by decide));have h2:=hc (i*4+2) _ (nodE.row_at l i 2 _ e (by decide));have h3:=hc (i*4+3) _ (nodE.row_at l i 3 _ e (by decide));exact⟨h0,h1,h2,h3⟩
theorem q6c (w:World)(v:NoV):∃W,w.alloc (.cells #[.int .i64 (v.pg:Nat),v.c,v.k,v.p] VT)=W∧NPv W w.heap.size v∧Below w.heap.size w W:=
 ⟨_,rfl,q6q w _ _ _ _,(zbr _ _).alloc (zlr _) _⟩
theorem z3z (v:NoV)(w:World):Calls Tryz.prog 36 #[v.v] w fun e w'=>e=.returned (.int .i64 (v.pg:Nat))∧Below w.heap.size w w':=by
 obtain⟨pg,ca,cn,cc,ka,kn,kc,pa,pn,pc⟩:=v;dsimp only[NoV.c,NoV.k,NoV.p,NoV.v] at*
 go_enter Tryz.func36,Tryz.ntmps36
 go_wp2;go_ret;exact⟨rfl,(zbr _ _).alloc (zlr _) _⟩
theorem y5o (v:NoV)(w:World):Calls Tryz.prog 53 #[v.v] w fun e w'=>e=.returned (.bool (decide (v.pn=0)))∧Below w.heap.size w w':=by
 obtain⟨W,hW,hV,hb⟩:=q6c w v;have HW:=zh hW;have HB:=zh hb;have Hc:Hid (Calls Tryz.prog 43 #[pt w.heap.size] W fun e w'=>e=.returned (.bool (decide (v.pn=0)))∧W=w'):=by
  have q3:=hV.c3;clear hW hb;obtain⟨n,hn⟩:∃n,v.pn=n:=⟨_,rfl⟩
  obtain⟨D,hD⟩:∃D,decide (n=0)=D:=⟨_,rfl⟩
  have hd:((n:Int)==0)=D:=by
   rw[←hD]
   by_cases h:n=0
   ·rw[h];rfl
   ·rw[zdf h,beq_eq_false_iff_ne];omega
  simp only[NoV.p] at q3;rw[hn] at q3;rw[hn,hD];clear hV hn hD
  go_enter Tryz.func43,Tryz.ntmps43
  go_wp2;go_ret;exact⟨rfl,rfl⟩
 generalize decide (v.pn=0)=D at*;clear hW hV hb;obtain⟨pg,ca,cn,cc,ka,kn,kc,pa,pn,pc⟩:=v;dsimp only[NoV.c,NoV.k,NoV.p,NoV.v] at*
 go_enter Tryz.func53,Tryz.ntmps53
 go_wp2_with fail;rw[HW.out];refine Hc.out.mono ?_;rintro e w' ⟨rfl,rfl⟩;go_wp2;go_ret;exact⟨rfl,HB.out⟩
theorem x5g (v:NoV)(ks:List ByteArray)(w:World)(hv:EV strE w v.k ks)(hl:ks.length≤1000000):Calls Tryz.prog 57 #[v.v] w fun e w'=>∃u,e=.returned u∧EV strE w' u ks∧Below w.heap.size w w':=by
 obtain⟨W,hW,hV,hb⟩:=q6c w v;have HW:=zh hW;have HB:=zh hb;have q0:=hV.c2;have Hc:=zh (y0z v.k ks W (hv.ext hb) hl);rw[←hW] at q0;clear hW hV hb hv;obtain⟨pg,ca,cn,cc,ka,kn,kc,pa,pn,pc⟩:=v;dsimp only[NoV.c,NoV.k,NoV.p,NoV.v] at*
 go_enter Tryz.func57,Tryz.ntmps57
 go_wp2_with fail;rw[HW.out];refine Hc.out.mono ?_;rintro e w' ⟨u,rfl,hu,hb2⟩;have Hu:=zh hu;have Hb2:=zh (HB.out.trans (hb2.mono HB.out.size));clear hb2 hu;go_wp2;go_ret;exact⟨_,rfl,Hu.out,Hb2.out⟩
theorem ES.set {α:Type}{E:Elt α}{w:World}{a:Option Addr}{l:List α}{g j T:Nat}{A:Array Value}{fz:Nat×Nat}{x:Value}(h:ES E w a l)(hg:w.heap[g]? =some (.cells A T fz))(hT:E.ty T=false):ES E (w.setCell ⟨g,j,none⟩ x) a l:=by
 rcases h with h|⟨b,o,rfl,⟨A2,T2,fz2,h2,h3⟩,hc⟩
 ·exact .inl h
 ·have hne:b≠g:=fun he=>by
   rw[he,hg] at h2;injection h2 with h2
   injection h2 with _ h2 _
   rw[←h2,hT] at h3;cases h3
  have ht:Turn (fun i=>i=g) w (w.setCell ⟨g,j,none⟩ x):=(Turn.refl (fun i=>i=g) w).setCell (p:=⟨g,j,none⟩) x (fun _=>rfl);refine .inr ⟨b,o,rfl,⟨A2,T2,fz2,ht.hg h2 hne,h3⟩,fun j2 u hu=> ?_⟩;have h4:=hc j2 u hu;rw[ht.cell (p:=⟨b,o+j2,none⟩) (block_lt_of_cell h4) hne];exact h4
theorem EV.set {α:Type}{E:Elt α}{w:World}{v:Value}{l:List α}{g j T:Nat}{A:Array Value}{fz:Nat×Nat}{x:Value}(h:EV E w v l)(hg:w.heap[g]? =some (.cells A T fz))(hT:E.ty T=false):EV E (w.setCell ⟨g,j,Option.none⟩ x) v l:=by
 obtain⟨a,c,rfl,hs,h1⟩:=h;exact⟨a,c,rfl,hs.set hg hT,h1⟩
theorem RW.set {w:World}{g j T:Nat}{A:Array Value}{fz:Nat×Nat}{x:Value}(hg:w.heap[g]? =some (.cells A T fz))(hT:pgE.ty T=false):∀{xs:List Rw} {es:List En},RW w xs es→RW (w.setCell ⟨g,j,none⟩ x) xs es
 | [],[],_=>trivial
 | _::_,_::_,h=>⟨⟨h.1.1,h.1.2.1,h.1.2.2.set hg hT⟩,RW.set hg hT h.2⟩
 | [],_::_,h=>h.elim
 | _::_,[],h=>h.elim
def xa (xs:List Rw)(i:Nat):Rw:=xs.getD i default
theorem RW.put {w:World}:∀{xs:List Rw} {es:List En} {i:Nat} {y:Rw} {z:En},RW w xs es→ROk w y z→i<es.length→RW w (xs.set i y) (es.set i z)
 | [],[],_,_,_,_,_,hi=>by simp at hi
 | _::_,_::_,0,_,_,h,h2,_=>⟨h2,h.2⟩
 | _::_,_::_,i+1,_,_,h,h2,hi=>⟨h.1,RW.put h.2 h2 (by simpa using hi)⟩
 | [],_::_,_,_,_,h,_,_=>h.elim
 | _::_,[],_,_,_,h,_,_=>h.elim
theorem q0m (es:List En)(i:Nat)(h:i<es.length):es.set i (ea es i)=es:=by
 apply List.ext_getElem?;intro j;rw[List.getElem?_set]
 by_cases hj:i=j
 ·subst hj;rw[if_pos rfl,if_pos h];unfold ea;simp[List.getD,h]
 ·rw[if_neg hj]
theorem x5h:∀(xs:List Rw) (j:Nat) (a:Option Addr) (n c:Nat),j<xs.length→celE.row (xs.set j ⟨(xa xs j).k,(xa xs j).v,a,n,c⟩)=(celE.row xs).set (j*3+2) (.slice a n c)
 | [],j,_,_,_,h=>by simp at h
 | x::r,0,a,n,c,_=>rfl
 | x::r,j+1,a,n,c,h=>by
  have e1:(x::r).set (j+1) ⟨(xa (x::r) (j+1)).k,(xa (x::r) (j+1)).v,a,n,c⟩=x::r.set j ⟨(xa r j).k,(xa r j).v,a,n,c⟩:=rfl;rw[e1,Elt.row,Elt.row,x5h r j a n c (by simpa using h)];have e2:celE.enc x=[.string x.k,.string x.v,.slice x.a x.n x.c]:=rfl;rw[e2,show(j+1)*3+2=(j*3+2)+3 by omega]
  rfl
theorem x80 {w:World}{B g c:Nat}{xs:List Rw}(j:Nat)(a:Option Addr)(n d:Nat)(hj:j<xs.length)(h:w.ownsRow B TCT celE.sz (.slice (some ⟨g,0,none⟩) xs.length c) xs.length (celE.row xs)):
  (w.setCell ⟨g,j*3+2,none⟩ (.slice a n d)).ownsRow B TCT celE.sz (.slice (some ⟨g,0,none⟩) (xs.set j ⟨(xa xs j).k,(xa xs j).v,a,n,d⟩).length c) (xs.set j ⟨(xa xs j).k,(xa xs j).v,a,n,d⟩).length (celE.row (xs.set j ⟨(xa xs j).k,(xa xs j).v,a,n,d⟩)):=by
 rw[List.length_set];refine⟨by rw[Elt.row_len,List.length_set],?_⟩
 rcases h.2 with ⟨h1,_⟩|⟨g',cap,cur,hv,hbg,hg,hnc,hcm,hcs,ht⟩
 ·cases h1
 ·simp only[Value.slice.injEq,Option.some.injEq,Addr.mk.injEq,and_true,true_and] at hv;obtain⟨rfl,rfl⟩:=hv;have hset:=heap_setCell_same w g (j*3+2) cur TCT (.slice a n d) hg;refine .inr ⟨g,c,_,rfl,hbg,hset,hnc,hcm,by simpa using hcs,?_⟩;rw[x5h xs j a n d hj,←ht];simp[List.take_set]
theorem y7j {w:World}{B g c:Nat}{xs:List Rw}(j:Nat)(hj:j<xs.length)(h:w.ownsRow B TCT celE.sz (.slice (some ⟨g,0,none⟩) xs.length c) xs.length (celE.row xs)):
  (w.cell? ⟨g,j*3,none⟩=some (.string (xa xs j).k)∧w.cell? ⟨g,j*3+1,none⟩=some (.string (xa xs j).v)∧w.cell? ⟨g,j*3+2,none⟩=some (xa xs j).sl)∧(∀i,w.frozen? ⟨g,i,none⟩=false)∧B≤g∧(∃A,w.heap[g]? =some (.cells A TCT (0,0))):=by
 have e:xs[j]? =some (xa xs j):=by unfold xa;simp[List.getD,hj]
 have h1:=celE.row_at xs j 0 _ e (by decide);have h2:=celE.row_at xs j 1 _ e (by decide);have h3:=celE.row_at xs j 2 _ e (by decide);have hsz:celE.sz=3:=rfl;rw[hsz] at h1 h2 h3;have k1:=h.cellAt (j*3) (by rw[hsz];omega);have k2:=h.cellAt (j*3+1) (by rw[hsz];omega);have k3:=h.cellAt (j*3+2) (by rw[hsz];omega);refine⟨⟨k1.trans h1,k2.trans h2,k3.trans h3⟩,?_⟩
 rcases h.2 with ⟨h4,_⟩|⟨g',cap,cur,hv,hbg,hg,_⟩
 ·cases h4
 ·simp only[Value.slice.injEq,Option.some.injEq,Addr.mk.injEq,and_true,true_and] at hv;obtain⟨rfl,rfl⟩:=hv;exact⟨fun i=>by simp[World.frozen?,hg],hbg,cur,hg⟩
theorem z4z {w:World}{B B' E sz n:Nat}{v:Value}{xs:List Value}(h:w.ownsRow B E sz v n xs)(hb:B'≤B):w.ownsRow B' E sz v n xs:=by
 refine⟨h.1,?_⟩
 rcases h.2 with h2|⟨g,cap,cur,h3,h4,h5⟩
 ·exact .inl h2
 ·exact .inr ⟨g,cap,cur,h3,znt hb h4,h5⟩
def OC (w:World)(B:Nat)(u:Value)(es:List En):Prop:=∃xs,w.ownsRow B TCT celE.sz u xs.length (celE.row xs)∧RW w xs es
theorem OC.cv {w:World}{B:Nat}{u:Value}{es:List En}(h:OC w B u es):CV w u es:=by
 obtain⟨xs,h1,h2⟩:=h;exact q6n (z1u (T:=TCT) h1) h2
theorem OC.form {w:World}{B:Nat}{u:Value}{es:List En}(h:OC w B u es):∃a c,u=.slice a es.length c:=by
 obtain⟨a,c,h1,_⟩:=h.cv;exact⟨a,c,h1⟩
theorem OC.lit {w:World}{B:Nat}{u:Value}{es:List En}(h:OC w B u es)(h0:0<es.length):∃g c,u=.slice (some ⟨g,0,none⟩) es.length c:=by
 obtain⟨xs,h1,h2⟩:=h;have hl:=h2.len
 rcases h1.2 with ⟨rfl,h3⟩|⟨g,cap,cur,hv,_⟩
 ·omega
 ·exact⟨g,cap,by rw[hv,hl]⟩
theorem OC.below {w w':World}{B B2:Nat}{u:Value}{es:List En}(h:OC w B u es)(hb:Below B2 w w')(hB:w.heap.size≤B2):OC w' B u es:=by
 obtain⟨xs,h1,h2⟩:=h;exact⟨xs,z0p h1 hb hB,h2.below hb hB⟩
def OCk (w:World)(B:Nat)(u:Value)(es:List En)(k:Nat):Prop:=∃xs,w.ownsRow B TCT celE.sz u xs.length (celE.row xs)∧RW w xs es∧∀j,j<k→∀a,(xa xs j).a=some a→B≤a.block
theorem OCk.oc {w:World}{B:Nat}{u:Value}{es:List En}{k:Nat}(h:OCk w B u es k):OC w B u es:=h.elim fun xs h=>⟨xs,h.1,h.2.1⟩
theorem y7k {xs:List Rw}{k:Nat}{y:Rw}(h:k<xs.length):xa (xs.set k y) k=y:=by
 unfold xa;simp[List.getD,h]
theorem y5p {xs:List Rw}{k j:Nat}{y:Rw}(h:¬j=k):xa (xs.set k y) j=xa xs j:=by
 unfold xa;rw[List.getD_eq_getElem?_getD,List.getElem?_set,if_neg (fun e=>h e.symm),List.getD_eq_getElem?_getD]
set_option maxRecDepth 100000 in
theorem y07 (v:Value)(es:List En)(w:World)(hv:CV w v es)(hl:es.length≤100000)(hch:∀e∈es,e.ch.length≤100000):
  Calls Tryz.prog 86 #[v] w fun e w'=>∃u,e=.returned u∧OCk w' w.heap.size u es es.length∧Below w.heap.size w w':=by
 obtain⟨xs,hev,hrw⟩:=hv.raw;have hxl:=hrw.len;have Hc:=zh (x0s v xs w hev (by omega));have Hrw:=zh hrw;have Hxl:=zh hxl;have Hch:=zh hch;obtain⟨a0,c0,rfl,_⟩:=hev;obtain⟨n,hn⟩:∃n,es.length=n:=⟨_,rfl⟩
 have Hn:=zh hn;rw[hn] at hl;rw[hxl,hn] at Hc⊢
 clear hrw hxl hv hn hch
 go_enter Tryz.func86,Tryz.ntmps86
 go_wp2_with fail;refine Hc.out.mono ?_;rintro e w1 ⟨u,rfl,ho,hb⟩;have hoc:Hid (OCk w1 w.heap.size u es 0):=⟨xs,by rw[Hxl.out,Hn.out];exact ho,Hrw.out.below hb (zlr _),fun j hj=>by omega⟩
 obtain⟨g,c,rfl⟩:=hoc.out.oc.form;rw[Hn.out] at hoc⊢
 have HB:=zh hb;clear ho hb Hc;go_wp2_with fail
 go_loopw [4,9] (fun _ i wr=>∃k:Nat,i=.int .i64 k∧k≤n∧Hid (OCk wr w.heap.size (.slice g n c) es k)∧Hid (Below w.heap.size w wr)) (fun _ i _=>n-(intOf i).toNat)
 case atStart=>exact⟨0,rfl,by omega,hoc,HB⟩
 case round=>
  obtain⟨k,rfl,hk,hoc,hB⟩:=hrel
  by_cases hlt:k<n
  ·obtain⟨gb,c2,hgb⟩:=hoc.out.oc.lit (by rw[Hn.out];omega);obtain⟨rfl,-,rfl⟩:g=some ⟨gb,0,none⟩∧n=es.length∧c=c2:=by
    injection hgb with h1 h2 h3
    exact⟨h1,h2,h3⟩
   obtain⟨ys,hown,hrw,hfr⟩:=hoc.out;have Hfr:=zh hfr;have hyl:=hrw.len;rw[←Hn.out,←hyl] at hown;obtain⟨⟨r0,r1,r2⟩,hfz,hBg,A,hg⟩:=y7j k (by rw[hyl,Hn.out];exact hlt) hown;obtain⟨y1,y2,y3⟩:=hrw.at (i:=k) (by rw[Hn.out];exact hlt);have y1':(xa ys k).k=(ea es k).k:=y1;have y2':(xa ys k).v=(ea es k).v:=y2;have y3':EV pgE wr (xa ys k).sl (ea es k).ch:=y3;have Hcl:=zh (x0t (xa ys k).sl (ea es k).ch wr y3' (by have:=Hch.out (ea es k) (z4e (by rw[Hn.out];exact hlt));omega));have HOwn:=zh hown;have HRw:=zh hrw;have Hg:=zh hg;have lg:gb<wr.heap.size:=(zag.1 hg).1;have hsz:=hB.out.size;have Hy:=zh (zai y1' y2');have Hyl:=zh hyl;clear y1 y2 y3 y1' y2' y3' r0 r1 hg hown hrw hoc hgb hyl;generalize hxs:xa ys k=X at*;obtain⟨xk,xv,xA,xn,xc⟩:=X;simp only[Rw.sl] at r2 Hcl;go_wp2_with fail;refine Hcl.out.mono ?_;rintro e w2 ⟨v2,rfl,ho2,hb2⟩;have hlo2:=ho2.lt;obtain⟨a2,c3,rfl,h2⟩:=z1u (E:=pgE) ho2;have hEv:EV pgE w2 (.slice a2 (ea es k).ch.length c3) (ea es k).ch:=⟨a2,c3,rfl,h2⟩
   have hg2:w2.heap[gb]? =some (.cells A TCT (0,0)):=(hb2.block gb lg).trans Hg.out;have f2:w2.frozen? ⟨gb,k*3+2,none⟩=false:=by simp[World.frozen?,hg2]
   have r2':w2.cell? ⟨gb,k*3+2,none⟩=some (.slice xA xn xc):=by rw[hb2.cell (p:=⟨gb,k*3+2,none⟩) lg];exact r2
   obtain⟨m,hm⟩:∃m,(ea es k).ch.length=m:=⟨_,rfl⟩
   rw[hm] at hEv⊢
   have hown2:=x80 k a2 m c3 (by rw[Hyl.out,Hn.out];exact hlt) (z0p HOwn.out hb2 (zlr _));have hrw2:RW (w2.setCell ⟨gb,k*3+2,none⟩ (.slice a2 m c3)) (ys.set k ⟨(xa ys k).k,(xa ys k).v,a2,m,c3⟩) es:=by
    have h5:=(HRw.out.below hb2 (zlr _)).set (g:=gb) (j:=k*3+2) (x:=.slice a2 m c3) hg2 rfl;have h6:=h5.put (i:=k) (y:=⟨(xa ys k).k,(xa ys k).v,a2,m,c3⟩) (z:=ea es k) ⟨by rw[hxs];exact Hy.out.1,by rw[hxs];exact Hy.out.2,hEv.set hg2 rfl⟩ (by rw[Hn.out];exact hlt);rw[q0m es k (by rw[Hn.out];exact hlt)] at h6;exact h6
   have hwr:w.heap.size≤wr.heap.size:=hB.out.size;have hfr2:∀j,j<k+1→∀a,(xa (ys.set k ⟨(xa ys k).k,(xa ys k).v,a2,m,c3⟩) j).a=some a→w.heap.size≤a.block:=fun j hj a ha=>by
    by_cases hjk:j=k
    ·subst hjk;rw[y7k (by rw[Hyl.out,Hn.out];exact hlt)] at ha;have ha2:a2=some a:=ha;have h7:=(hlo2 a.block (by rw[ha2];rfl)).1;omega
    ·rw[y5p hjk] at ha;exact Hfr.out j (by omega) a ha
   have Hoc:Hid (OCk (w2.setCell ⟨gb,k*3+2,none⟩ (.slice a2 m c3)) w.heap.size (.slice (some ⟨gb,0,none⟩) n c) es (k+1)):=by
    refine⟨_,?_,hrw2,hfr2⟩;have e1:(ys.set k ⟨(xa ys k).k,(xa ys k).v,a2,m,c3⟩).length=n:=by rw[List.length_set,Hyl.out,Hn.out]
    rw[e1] at hown2⊢
    exact hown2
   have HB2:Hid (Below w.heap.size w (w2.setCell ⟨gb,k*3+2,none⟩ (.slice a2 m c3))):=(hB.out.trans (hb2.mono hsz)).setCell (p:=⟨gb,k*3+2,none⟩) hBg _;clear hEv hg2 hown2 hrw2 hb2 h2 hB HRw HOwn Hcl hm hxs r2 hfr2 hlo2 ho2 hfr hwr;go_wp2_with fail
   go_roundw
   case rel=>exact⟨k+1,by go_num,by omega,Hoc,HB2⟩
   case measure=>simp[intOf];omega
  ·obtain rfl:k=n:=by omega
   go_wp2;go_ret;exact⟨_,rfl,hoc.out,hB.out⟩
theorem x09 (v:Value)(es:List En)(w:World)(hv:CV w v es)(hl:es.length≤100000)(hch:∀e∈es,e.ch.length≤100000):
  Calls Tryz.prog 86 #[v] w fun e w'=>∃u,e=.returned u∧OC w' w.heap.size u es∧Below w.heap.size w w':=
 (y07 v es w hv hl hch).mono fun _ _ ⟨u,h1,h2,h3⟩=>⟨u,h1,h2.oc,h3⟩
end Go.Proofs.YtdnfhjfbanhhcaaGreatDoor
