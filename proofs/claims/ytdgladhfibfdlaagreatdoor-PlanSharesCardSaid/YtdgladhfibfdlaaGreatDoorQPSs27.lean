/-
  Steps.
-/
import Derived.Test.YtdgladhfibfdlaaGreatDoorQPSs26
namespace Go.Proofs.YtdgladhfibfdlaaGreatDoor
open Go Go.RowKit Go.Proofs.Tryz
set_option maxRecDepth 100000
structure NoV where
 pg:Nat
 ca:Option Addr
 cn:Nat
 cc:Nat
 ka:Option Addr
 kn:Nat
 kc:Nat
 pa:Option Addr
 pn:Nat
 pc:Nat
instance :Inhabited NoV:=⟨⟨0,none,0,0,none,0,0,none,0,0⟩⟩
abbrev NoV.c (v:NoV):Value:=.slice v.ca v.cn v.cc
abbrev NoV.k (v:NoV):Value:=.slice v.ka v.kn v.kc
abbrev NoV.p (v:NoV):Value:=.slice v.pa v.pn v.pc
abbrev NoV.v (v:NoV):Value:=.agg #[.int .i64 (v.pg:Nat),v.c,v.k,v.p]
def Q2:Elt NoV:=⟨4,80,.agg #[.int .i64 0,Z0,Z0,Z0],fun v=> [.int .i64 (v.pg:Nat),v.c,v.k,v.p],fun _=>rfl,fun e u hu=>by
 simp only[List.mem_cons,List.not_mem_nil,or_false] at hu;rcases hu with rfl|rfl|rfl|rfl<;>rfl,by decide,rfl,fun T=>T==VT⟩
theorem x3n:(prog.info? VT).map (fun i=>(i.zero,i.size,i.bytes))=some (some Q2.zero,Q2.sz,Q2.by_):=by kernel_rfl
def va (l:List NoV)(i:Nat):NoV:=l.getD i default
def NPv (w:World)(b:Nat)(v:NoV):Prop:=NP w b v.pg v.c v.k v.p
theorem ES.nods {w:World}{a:Option Addr}{l:List NoV}(h:ES Q2 w a l)(h0:0<l.length):∃g o,a=some ⟨g,o,none⟩∧∀i,i<l.length→w.cell? ⟨g,o+i*4,none⟩=some (.int .i64 ((va l i).pg:Nat))∧w.cell? ⟨g,o+i*4+1,none⟩=some (va l i).c∧w.cell? ⟨g,o+i*4+2,none⟩=some (va l i).k∧w.cell? ⟨g,o+i*4+3,none⟩=some (va l i).p:=by
 obtain⟨g,o,rfl,hc⟩:=h.at h0;refine⟨g,o,rfl,fun i hi=> ?_⟩;have e:l[i]? =some (va l i):=by unfold va;simp[List.getD,hi]
 have h0:=hc (i*4+0) _ (Q2.row_at l i 0 _ e (by decide));have h1:=hc (i*4+1) _ (Q2.row_at l i 1 _ e (by decide));have h2:=hc (i*4+2) _ (Q2.row_at l i 2 _ e (by decide));have h3:=hc (i*4+3) _ (Q2.row_at l i 3 _ e (by decide));exact⟨h0,h1,h2,h3⟩
theorem x4h (w:World)(v:NoV):∃W,w.alloc (.cells #[.int .i64 (v.pg:Nat),v.c,v.k,v.p] VT)=W∧NPv W w.heap.size v∧zB w W:=
 ⟨_,rfl,x4w w _ _ _ _,(zbr _ _).alloc (zlr _) _⟩
theorem Nz (v:NoV)(w:World):Calls prog 56 #[v.v] w fun e w'=>e=.returned (.int .i64 (v.pg:Nat))∧zB w w':=by
 obtain⟨pg,ca,cn,cc,ka,kn,kc,pa,pn,pc⟩:=v;dsimp only[NoV.c,NoV.k,NoV.p,NoV.v] at*
 go_enter func56,ntmps56
 go_wp2;go_ret;exact⟨rfl,(zbr _ _).alloc (zlr _) _⟩
theorem z04 (v:NoV)(w:World):Calls prog 73 #[v.v] w fun e w'=>e=.returned (.bool (decide (v.pn=0)))∧zB w w':=by
 obtain⟨W,hW,hV,hb⟩:=x4h w v;have HW:=zh hW;have HB:=zh hb;have Hc:Hid (Calls prog 62 #[pt w.heap.size] W fun e w'=>e=.returned (.bool (decide (v.pn=0)))∧W=w'):=by
  have q3:=hV.c3;clear hW hb;obtain⟨n,hn⟩:∃n,v.pn=n:=⟨_,rfl⟩
  obtain⟨D,hD⟩:∃D,decide (n=0)=D:=⟨_,rfl⟩
  have hd:((n:Int)==0)=D:=by
   rw[←hD]
   by_cases h:n=0
   ·rw[h];rfl
   ·rw[zdf h,beq_eq_false_iff_ne];omega
  simp only[NoV.p] at q3;rw[hn] at q3;rw[hn,hD];clear hV hn hD
  go_enter func62,ntmps62
  go_wp2;go_ret;exact⟨rfl,rfl⟩
 generalize decide (v.pn=0)=D at*;clear hW hV hb;obtain⟨pg,ca,cn,cc,ka,kn,kc,pa,pn,pc⟩:=v;dsimp only[NoV.c,NoV.k,NoV.p,NoV.v] at*
 go_enter func73,ntmps73
 go_wp2_with fail;rw[HW.out];refine Hc.out.mono ?_;rintro e w' ⟨rfl,rfl⟩;go_wp2;go_ret;exact⟨rfl,HB.out⟩
theorem y2a (v:NoV)(ks:List ByteArray)(w:World)(hv:EV V5 w v.k ks)(hl:ks.length≤1000000):Calls prog 76 #[v.v] w fun e w'=>∃u,e=.returned u∧EV V5 w' u ks∧zB w w':=by
 obtain⟨W,hW,hV,hb⟩:=x4h w v;have HW:=zh hW;have HB:=zh hb;have q0:=hV.c2;have Hc:=zh (JE v.k ks W (hv.ext hb) hl);rw[←hW] at q0;clear hW hV hb hv;obtain⟨pg,ca,cn,cc,ka,kn,kc,pa,pn,pc⟩:=v;dsimp only[NoV.c,NoV.k,NoV.p,NoV.v] at*
 go_enter func76,ntmps76
 go_wp2_with fail;rw[HW.out];refine Hc.out.mono ?_;rintro e w' ⟨u,rfl,hu,hb2⟩;have Hu:=zh hu;have Hb2:=zh (HB.out.trans (hb2.mono HB.out.size));clear hb2 hu;go_wp2;go_ret;exact⟨_,rfl,Hu.out,Hb2.out⟩
theorem ES.set {α:Type}{E:Elt α}{w:World}{a:Option Addr}{l:List α}{g j T:Nat}{A:Array Value}{fz:Nat×Nat}{x:Value}(h:ES E w a l)(hg:w.heap[g]? =some (.cells A T fz))(hT:E.ty T=false):ES E (w.setCell ⟨g,j,none⟩ x) a l:=by
 rcases h with h|⟨b,o,rfl,⟨A2,T2,fz2,h2,h3⟩,hc⟩
 ·exact .inl h
 ·have hne:b≠g:=fun he=>by
   rw[he,hg] at h2;injection h2 with h2
   injection h2 with _ h2 _
   rw[←h2,hT] at h3;cases h3
  have ht:Zx (fun i=>i=g) w (w.setCell ⟨g,j,none⟩ x):=(Zx.refl (fun i=>i=g) w).setCell (p:=⟨g,j,none⟩) x (fun _=>rfl);refine .inr ⟨b,o,rfl,⟨A2,T2,fz2,ht.hg h2 hne,h3⟩,fun j2 u hu=> ?_⟩;have h4:=hc j2 u hu;rw[ht.cell (p:=⟨b,o+j2,none⟩) (block_lt_of_cell h4) hne];exact h4
theorem EV.set {α:Type}{E:Elt α}{w:World}{v:Value}{l:List α}{g j T:Nat}{A:Array Value}{fz:Nat×Nat}{x:Value}(h:EV E w v l)(hg:w.heap[g]? =some (.cells A T fz))(hT:E.ty T=false):EV E (w.setCell ⟨g,j,Option.none⟩ x) v l:=by
 obtain⟨a,c,rfl,hs,h1⟩:=h;exact⟨a,c,rfl,hs.set hg hT,h1⟩
theorem RW.set {w:World}{g j T:Nat}{A:Array Value}{fz:Nat×Nat}{x:Value}(hg:w.heap[g]? =some (.cells A T fz))(hT:pgE.ty T=false):∀{xs:List Rw} {es:List En},RW w xs es→RW (w.setCell ⟨g,j,none⟩ x) xs es
 | [],[],_=>trivial
 | _::_,_::_,h=>⟨⟨h.1.1,h.1.2.1,h.1.2.2.set hg hT⟩,RW.set hg hT h.2⟩
 | [],_::_,h=>h.elim
 | _::_,[],h=>h.elim
def xa (xs:List Rw)(i:Nat):Rw:=xs.getD i default
theorem RW.put {w:World}:∀{xs:List Rw} {es:List En} {i:Nat} {y:Rw} {z:En},RW w xs es→ROk w y z→i<es.length→RW w (xs.set i y) (es.set i z)
 | [],[],_,_,_,_,_,hi=>by simp at hi
 | _::_,_::_,0,_,_,h,h2,_=>⟨h2,h.2⟩
 | _::_,_::_,i+1,_,_,h,h2,hi=>⟨h.1,RW.put h.2 h2 (by simpa using hi)⟩
 | [],_::_,_,_,_,h,_,_=>h.elim
 | _::_,[],_,_,_,h,_,_=>h.elim
theorem y7l (es:List En)(i:Nat)(h:i<es.length):es.set i (ea es i)=es:=by
 apply List.ext_getElem?;intro j;rw[List.getElem?_set]
 by_cases hj:i=j
 ·subst hj;rw[if_pos rfl,if_pos h];unfold ea;simp[List.getD,h]
 ·rw[if_neg hj]
theorem y2b:∀(xs:List Rw) (j:Nat) (a:Option Addr) (n c:Nat),j<xs.length→Uw.row (xs.set j ⟨(xa xs j).k,(xa xs j).v,a,n,c⟩)=(Uw.row xs).set (j*3+2) (.slice a n c)
 | [],j,_,_,_,h=>by simp at h
 | x::r,0,a,n,c,_=>rfl
 | x::r,j+1,a,n,c,h=>by
  have e1:(x::r).set (j+1) ⟨(xa (x::r) (j+1)).k,(xa (x::r) (j+1)).v,a,n,c⟩=x::r.set j ⟨(xa r j).k,(xa r j).v,a,n,c⟩:=rfl;rw[e1,Elt.row,Elt.row,y2b r j a n c (by simpa using h)];have e2:Uw.enc x=[.string x.k,.string x.v,.slice x.a x.n x.c]:=rfl;rw[e2,show(j+1)*3+2=(j*3+2)+3 by omega]
  rfl
theorem y5s {w:World}{B g c:Nat}{xs:List Rw}(j:Nat)(a:Option Addr)(n d:Nat)(hj:j<xs.length)(h:w.ownsRow B TCT Uw.sz (.slice (some ⟨g,0,none⟩) xs.length c) xs.length (Uw.row xs)):
  (w.setCell ⟨g,j*3+2,none⟩ (.slice a n d)).ownsRow B TCT Uw.sz (.slice (some ⟨g,0,none⟩) (xs.set j ⟨(xa xs j).k,(xa xs j).v,a,n,d⟩).length c) (xs.set j ⟨(xa xs j).k,(xa xs j).v,a,n,d⟩).length (Uw.row (xs.set j ⟨(xa xs j).k,(xa xs j).v,a,n,d⟩)):=by
 rw[List.length_set];refine⟨by rw[Elt.row_len,List.length_set],?_⟩
 rcases h.2 with ⟨h1,_⟩|⟨g',cap,cur,hv,hbg,hg,hnc,hcm,hcs,ht⟩
 ·cases h1
 ·simp only[Value.slice.injEq,Option.some.injEq,Addr.mk.injEq,and_true,true_and] at hv;obtain⟨rfl,rfl⟩:=hv;have hset:=heap_setCell_same w g (j*3+2) cur TCT (.slice a n d) hg;refine .inr ⟨g,c,_,rfl,hbg,hset,hnc,hcm,by simpa using hcs,?_⟩;rw[y2b xs j a n d hj,←ht];simp[List.take_set]
theorem z3f {w:World}{B g c:Nat}{xs:List Rw}(j:Nat)(hj:j<xs.length)(h:w.ownsRow B TCT Uw.sz (.slice (some ⟨g,0,none⟩) xs.length c) xs.length (Uw.row xs)):
  (w.cell? ⟨g,j*3,none⟩=some (.string (xa xs j).k)∧w.cell? ⟨g,j*3+1,none⟩=some (.string (xa xs j).v)∧w.cell? ⟨g,j*3+2,none⟩=some (xa xs j).sl)∧(∀i,w.frozen? ⟨g,i,none⟩=false)∧B≤g∧(∃A,w.heap[g]? =some (.cells A TCT (0,0))):=by
 have e:xs[j]? =some (xa xs j):=by unfold xa;simp[List.getD,hj]
 have h1:=Uw.row_at xs j 0 _ e (by decide);have h2:=Uw.row_at xs j 1 _ e (by decide);have h3:=Uw.row_at xs j 2 _ e (by decide);have hsz:Uw.sz=3:=rfl;rw[hsz] at h1 h2 h3;have k1:=h.cellAt (j*3) (by rw[hsz];omega);have k2:=h.cellAt (j*3+1) (by rw[hsz];omega);have k3:=h.cellAt (j*3+2) (by rw[hsz];omega);refine⟨⟨k1.trans h1,k2.trans h2,k3.trans h3⟩,?_⟩
 rcases h.2 with ⟨h4,_⟩|⟨g',cap,cur,hv,hbg,hg,_⟩
 ·cases h4
 ·simp only[Value.slice.injEq,Option.some.injEq,Addr.mk.injEq,and_true,true_and] at hv;obtain⟨rfl,rfl⟩:=hv;exact⟨fun i=>by simp[World.frozen?,hg],hbg,cur,hg⟩
theorem XL {w:World}{B B' E sz n:Nat}{v:Value}{xs:List Value}(h:w.ownsRow B E sz v n xs)(hb:B'≤B):w.ownsRow B' E sz v n xs:=by
 refine⟨h.1,?_⟩
 rcases h.2 with h2|⟨g,cap,cur,h3,h4,h5⟩
 ·exact .inl h2
 ·exact .inr ⟨g,cap,cur,h3,znt hb h4,h5⟩
def OC (w:World)(B:Nat)(u:Value)(es:List En):Prop:=∃xs,w.ownsRow B TCT Uw.sz u xs.length (Uw.row xs)∧RW w xs es
theorem OC.cv {w:World}{B:Nat}{u:Value}{es:List En}(h:OC w B u es):CV w u es:=by
 obtain⟨xs,h1,h2⟩:=h;exact x4s (U3 (T:=TCT) h1) h2
theorem OC.form {w:World}{B:Nat}{u:Value}{es:List En}(h:OC w B u es):∃a c,u=.slice a es.length c:=by
 obtain⟨a,c,h1,_⟩:=h.cv;exact⟨a,c,h1⟩
theorem OC.lit {w:World}{B:Nat}{u:Value}{es:List En}(h:OC w B u es)(h0:0<es.length):∃g c,u=.slice (some ⟨g,0,none⟩) es.length c:=by
 obtain⟨xs,h1,h2⟩:=h;have hl:=h2.len
 rcases h1.2 with ⟨rfl,h3⟩|⟨g,cap,cur,hv,_⟩
 ·omega
 ·exact⟨g,cap,by rw[hv,hl]⟩
theorem OC.below {w w':World}{B B2:Nat}{u:Value}{es:List En}(h:OC w B u es)(hb:Below B2 w w')(hB:w.heap.size≤B2):OC w' B u es:=by
 obtain⟨xs,h1,h2⟩:=h;exact⟨xs,Y4 h1 hb hB,h2.below hb hB⟩
def OCk (w:World)(B:Nat)(u:Value)(es:List En)(k:Nat):Prop:=∃xs,w.ownsRow B TCT Uw.sz u xs.length (Uw.row xs)∧RW w xs es∧∀j,j<k→∀a,(xa xs j).a=some a→B≤a.block
theorem OCk.oc {w:World}{B:Nat}{u:Value}{es:List En}{k:Nat}(h:OCk w B u es k):OC w B u es:=h.elim fun xs h=>⟨xs,h.1,h.2.1⟩
theorem z3g {xs:List Rw}{k:Nat}{y:Rw}(h:k<xs.length):xa (xs.set k y) k=y:=by
 unfold xa;simp[List.getD,h]
theorem z05 {xs:List Rw}{k j:Nat}{y:Rw}(h:¬j=k):xa (xs.set k y) j=xa xs j:=by
 unfold xa;rw[List.getD_eq_getElem?_getD,List.getElem?_set,if_neg (fun e=>h e.symm),List.getD_eq_getElem?_getD]
theorem JL (v:Value)(es:List En)(w:World)(hv:CV w v es)(hl:es.length≤100000)(hch:∀e∈es,e.ch.length≤100000):
  Calls prog 93 #[v] w fun e w'=>∃u,e=.returned u∧OCk w' w.heap.size u es es.length∧zB w w':=by
 obtain⟨xs,hev,hrw⟩:=hv.raw;have hxl:=hrw.len;have Hc:=zh (z62 v xs w hev (by omega));have Hrw:=zh hrw;have Hxl:=zh hxl;have Hch:=zh hch;obtain⟨a0,c0,rfl,_⟩:=hev;obtain⟨n,hn⟩:∃n,es.length=n:=⟨_,rfl⟩
 have Hn:=zh hn;rw[hn] at hl;rw[hxl,hn] at Hc⊢
 clear hrw hxl hv hn hch
 go_enter func93,ntmps93
 go_wp2_with fail;refine Hc.out.mono ?_;rintro e w1 ⟨u,rfl,ho,hb⟩;have hoc:Hid (OCk w1 w.heap.size u es 0):=⟨xs,by rw[Hxl.out,Hn.out];exact ho,Hrw.out.below hb (zlr _),fun j hj=>by omega⟩
 obtain⟨g,c,rfl⟩:=hoc.out.oc.form;rw[Hn.out] at hoc⊢
 have HB:=zh hb;clear ho hb Hc;go_wp2_with fail
 go_loopw [4,9] (fun _ i wr=>∃k:Nat,i=.int .i64 k∧k≤n∧Hid (OCk wr w.heap.size (.slice g n c) es k)∧Hid (zB w wr)) (fun _ i _=>n-(intOf i).toNat)
 case atStart=>exact⟨0,rfl,by omega,hoc,HB⟩
 case round=>
  obtain⟨k,rfl,hk,hoc,hB⟩:=hrel
  by_cases hlt:k<n
  ·obtain⟨gb,c2,hgb⟩:=hoc.out.oc.lit (by rw[Hn.out];omega);obtain⟨rfl,-,rfl⟩:g=some ⟨gb,0,none⟩∧n=es.length∧c=c2:=by
    injection hgb with h1 h2 h3
    exact⟨h1,h2,h3⟩
   obtain⟨ys,hown,hrw,hfr⟩:=hoc.out;have Hfr:=zh hfr;have hyl:=hrw.len;rw[←Hn.out,←hyl] at hown;obtain⟨⟨r0,r1,r2⟩,hfz,hBg,A,hg⟩:=z3f k (by rw[hyl,Hn.out];exact hlt) hown;obtain⟨y1,y2,y3⟩:=hrw.at (i:=k) (by rw[Hn.out];exact hlt);have y1':(xa ys k).k=(ea es k).k:=y1;have y2':(xa ys k).v=(ea es k).v:=y2;have y3':EV pgE wr (xa ys k).sl (ea es k).ch:=y3;have Hcl:=zh (z63 (xa ys k).sl (ea es k).ch wr y3' (by have:=Hch.out (ea es k) (Mw (by rw[Hn.out];exact hlt));omega));have HOwn:=zh hown;have HRw:=zh hrw;have Hg:=zh hg;have lg:gb<wr.heap.size:=(zag.1 hg).1;have hsz:=hB.out.size;have Hy:=zh (zai y1' y2');have Hyl:=zh hyl;clear y1 y2 y3 y1' y2' y3' r0 r1 hg hown hrw hoc hgb hyl;generalize hxs:xa ys k=X at*;obtain⟨xk,xv,xA,xn,xc⟩:=X;simp only[Rw.sl] at r2 Hcl;go_wp2_with fail;refine Hcl.out.mono ?_;rintro e w2 ⟨v2,rfl,ho2,hb2⟩;have hlo2:=ho2.lt;obtain⟨a2,c3,rfl,h2⟩:=U3 (E:=pgE) ho2;have hEv:EV pgE w2 (.slice a2 (ea es k).ch.length c3) (ea es k).ch:=⟨a2,c3,rfl,h2⟩
   have hg2:w2.heap[gb]? =some (.cells A TCT (0,0)):=(hb2.block gb lg).trans Hg.out;have f2:w2.frozen? ⟨gb,k*3+2,none⟩=false:=by simp[World.frozen?,hg2]
   have r2':w2.cell? ⟨gb,k*3+2,none⟩=some (.slice xA xn xc):=by rw[hb2.cell (p:=⟨gb,k*3+2,none⟩) lg];exact r2
   obtain⟨m,hm⟩:∃m,(ea es k).ch.length=m:=⟨_,rfl⟩
   rw[hm] at hEv⊢
   have hown2:=y5s k a2 m c3 (by rw[Hyl.out,Hn.out];exact hlt) (Y4 HOwn.out hb2 (zlr _));have hrw2:RW (w2.setCell ⟨gb,k*3+2,none⟩ (.slice a2 m c3)) (ys.set k ⟨(xa ys k).k,(xa ys k).v,a2,m,c3⟩) es:=by
    have h5:=(HRw.out.below hb2 (zlr _)).set (g:=gb) (j:=k*3+2) (x:=.slice a2 m c3) hg2 rfl;have h6:=h5.put (i:=k) (y:=⟨(xa ys k).k,(xa ys k).v,a2,m,c3⟩) (z:=ea es k) ⟨by rw[hxs];exact Hy.out.1,by rw[hxs];exact Hy.out.2,hEv.set hg2 rfl⟩ (by rw[Hn.out];exact hlt);rw[y7l es k (by rw[Hn.out];exact hlt)] at h6;exact h6
   have hwr:w.heap.size≤wr.heap.size:=hB.out.size;have hfr2:∀j,j<k+1→∀a,(xa (ys.set k ⟨(xa ys k).k,(xa ys k).v,a2,m,c3⟩) j).a=some a→w.heap.size≤a.block:=fun j hj a ha=>by
    by_cases hjk:j=k
    ·subst hjk;rw[z3g (by rw[Hyl.out,Hn.out];exact hlt)] at ha;have ha2:a2=some a:=ha;have h7:=(hlo2 a.block (by rw[ha2];rfl)).1;omega
    ·rw[z05 hjk] at ha;exact Hfr.out j (by omega) a ha
   have Hoc:Hid (OCk (w2.setCell ⟨gb,k*3+2,none⟩ (.slice a2 m c3)) w.heap.size (.slice (some ⟨gb,0,none⟩) n c) es (k+1)):=by
    refine⟨_,?_,hrw2,hfr2⟩;have e1:(ys.set k ⟨(xa ys k).k,(xa ys k).v,a2,m,c3⟩).length=n:=by rw[List.length_set,Hyl.out,Hn.out]
    rw[e1] at hown2⊢
    exact hown2
   have HB2:Hid (zB w (w2.setCell ⟨gb,k*3+2,none⟩ (.slice a2 m c3))):=(hB.out.trans (hb2.mono hsz)).setCell (p:=⟨gb,k*3+2,none⟩) hBg _;clear hEv hg2 hown2 hrw2 hb2 h2 hB HRw HOwn Hcl hm hxs r2 hfr2 hlo2 ho2 hfr hwr;go_wp2_with fail
   go_roundw
   case rel=>exact⟨k+1,by go_num,by omega,Hoc,HB2⟩
   case measure=>simp[intOf];omega
  ·obtain rfl:k=n:=by omega
   go_wp2;go_ret;exact⟨_,rfl,hoc.out,hB.out⟩
theorem z7l (v:Value)(es:List En)(w:World)(hv:CV w v es)(hl:es.length≤100000)(hch:∀e∈es,e.ch.length≤100000):
  Calls prog 93 #[v] w fun e w'=>∃u,e=.returned u∧OC w' w.heap.size u es∧zB w w':=
 (JL v es w hv hl hch).mono fun _ _ ⟨u,h1,h2,h3⟩=>⟨u,h1,h2.oc,h3⟩
theorem XM (v:NoV)(es:List En)(w:World)(hv:CV w v.c es)(hl:es.length≤100000)(hch:∀e∈es,e.ch.length≤100000):Calls prog 67 #[v.v] w fun e w'=>∃u,e=.returned u∧OC w' w.heap.size u es∧zB w w':=by
 obtain⟨W,hW,hV,hb⟩:=x4h w v;have HW:=zh hW;have HB:=zh hb;have q0:=hV.c1;have Hc:=zh (z7l v.c es W (hv.ext hb) hl hch);rw[←hW] at q0;have hs:w.heap.size≤W.heap.size:=hb.size;clear hW hV hb hv hch hl;obtain⟨pg,ca,cn,cc,ka,kn,kc,pa,pn,pc⟩:=v;dsimp only[NoV.c,NoV.k,NoV.p,NoV.v] at*
 go_enter func67,ntmps67
 go_wp2_with fail;rw[HW.out];refine Hc.out.mono ?_;rintro e w' ⟨u,rfl,⟨xs,hu,hrw⟩,hb2⟩;have Hu:Hid (OC w' w.heap.size u es):=⟨xs,XL hu hs,hrw⟩
 have Hb2:=zh (HB.out.trans (hb2.mono HB.out.size));clear hb2 hu hrw;go_wp2;go_ret;exact⟨_,rfl,Hu.out,Hb2.out⟩
def Uv (w:World)(g:Nat)(x0 x1 x2 x3:Value):World:=(((w.setCell ⟨g,0,none⟩ x0).setCell ⟨g,1,none⟩ x1).setCell ⟨g,2,none⟩ x2).setCell ⟨g,3,none⟩ x3
section
variable {w:World} {g T:Nat} {y0 y1 y2 y3 x0 x1 x2 x3:Value}
theorem U6 (h:w.heap[g]? =some (.cells #[y0,y1,y2,y3] T (0,0))):(Uv w g x0 x1 x2 x3).heap[g]? =some (.cells #[x0,x1,x2,x3] T (0,0)):=by
 have hh0:=heap_setCell_same w g 0 _ T x0 h;have hh1:=heap_setCell_same _ g 1 _ T x1 hh0;have hh2:=heap_setCell_same _ g 2 _ T x2 hh1;exact heap_setCell_same _ g 3 _ T x3 hh2
theorem U7:Zx (fun i=>i=g) w (Uv w g x0 x1 x2 x3):=
 ((((Zx.refl (fun i=>i=g) w).setCell (p:=⟨g,0,none⟩) _ (fun _=>rfl)).setCell (p:=⟨g,1,none⟩) _ (fun _=>rfl)).setCell (p:=⟨g,2,none⟩) _ (fun _=>rfl)).setCell (p:=⟨g,3,none⟩) _ (fun _=>rfl)
theorem Sj {w0:World}{B:Nat}(h:Below B w0 w)(hB:B≤g):Below B w0 (Uv w g x0 x1 x2 x3):=
 (((h.setCell (p:=⟨g,0,none⟩) hB _).setCell (p:=⟨g,1,none⟩) hB _).setCell (p:=⟨g,2,none⟩) hB _).setCell (p:=⟨g,3,none⟩) hB _
end
def TyF (w:World)(F:Nat→Prop)(T:TypeId):Prop:=∀b,F b→∃A fz,w.heap[b]? =some (.cells A T fz)
section
variable {w w':World} {F:Nat→Prop} {T:TypeId}
theorem TyF.one {g:Nat}{A:Array Value}{fz:Nat×Nat}(h:w.heap[g]? =some (.cells A T fz)):TyF w (fun i=>i=g) T:=fun _ e=>⟨A,fz,e▸h⟩
theorem TyF.own {B E sz n:Nat}{v:Value}{xs:List Value}(h:w.ownsRow B E sz v n xs):TyF w (fun i=>v.ownBlock=some i) E:=fun b hb=>by
 rcases h.2 with ⟨rfl,_⟩|⟨g,cap,cur,rfl,_,hg,_⟩
 ·cases hb
 ·injection hb with hb
  subst hb;exact⟨cur,_,hg⟩
theorem TyF.not {b T2:Nat}{A:Array Value}{fz:Nat×Nat}(hF:TyF w F T)(h:w.heap[b]? =some (.cells A T2 fz))(hT:T≠T2):¬F b:=fun hb=>by
 obtain⟨A',fz',h2⟩:=hF b hb;rw[h] at h2;injection h2 with h2
 injection h2 with _ h2 _
 exact hT h2.symm
theorem ES.tur {α:Type}{E:Elt α}{a:Option Addr}{l:List α}(h:ES E w a l)(ht:Zx F w w')(hF:TyF w F T)(hT:E.ty T=false):ES E w' a l:=by
 rcases h with h|⟨b,o,rfl,⟨A2,T2,fz2,h2,h3⟩,hc⟩
 ·exact .inl h
 ·have hne:¬F b:=hF.not h2 (fun e=>by rw[e,h3] at hT;cases hT);refine .inr ⟨b,o,rfl,⟨A2,T2,fz2,ht.hg h2 hne,h3⟩,fun j2 u hu=> ?_⟩;have h4:=hc j2 u hu;rw[ht.cell (p:=⟨b,o+j2,none⟩) (block_lt_of_cell h4) hne];exact h4
theorem EV.tur {α:Type}{E:Elt α}{v:Value}{l:List α}(h:EV E w v l)(ht:Zx F w w')(hF:TyF w F T)(hT:E.ty T=false):EV E w' v l:=by
 obtain⟨a,c,rfl,hs,h1⟩:=h;exact⟨a,c,rfl,hs.tur ht hF hT,h1⟩
theorem RW.tur (ht:Zx F w w')(hF:TyF w F T)(hT:pgE.ty T=false):∀{xs:List Rw} {es:List En},RW w xs es→RW w' xs es
 | [],[],_=>trivial
 | _::_,_::_,h=>⟨⟨h.1.1,h.1.2.1,h.1.2.2.tur ht hF hT⟩,RW.tur ht hF hT h.2⟩
 | [],_::_,h=>h.elim
 | _::_,[],h=>h.elim
theorem Sq {B E sz n:Nat}{v:Value}{xs:List Value}(h:w.ownsRow B E sz v n xs)(ht:Zx F w w')(hF:TyF w F T)(hT:T≠E):w'.ownsRow B E sz v n xs:=by
 refine⟨h.1,?_⟩
 rcases h.2 with h2|⟨b,cap,cur,rfl,hb,hgb,h3⟩
 ·exact .inl h2
 ·exact .inr ⟨b,cap,cur,rfl,hb,ht.hg hgb (hF.not hgb hT),h3⟩
theorem OC.tur {B:Nat}{v:Value}{es:List En}(h:OC w B v es)(ht:Zx F w w')(hF:TyF w F T)(hT:pgE.ty T=false)(hT2:T≠TCT):OC w' B v es:=by
 obtain⟨xs,h1,h2⟩:=h;exact⟨xs,Sq h1 ht hF hT2,h2.tur ht hF hT⟩
end
theorem Ok {α:Type}{E:Elt α}{P:Program}{w:World}(B:Nat)(t ty e:TypeId)(ht:P.underlying t=some (.slice e))(h2:(P.info? e).map (fun i=>(i.zero,i.size,i.bytes))=some (some E.zero,E.sz,E.by_))
  (v:Value) (n:Nat) (l:List α) (hs:w.ownsRow B e E.sz v n (E.row l)) (hB:B≤w.heap.size) (a2:Option Addr) (n2 c2:Nat) (m:List α) (hn2:m.length=n2) (h0:0<n2) (hm:ES E w a2 m)
  (h63:n+n2≤maxLen) (hby:(n+n2)*E.by_≤140737488355328):
  ∃v' w',(Builtin.append_ #[t,t] ty #[v,.slice a2 n2 c2]).run P w=.ok v' w'∧Below B w w'∧Zx (fun i=>v.ownBlock=some i) w w'∧w'.ownsRow B e E.sz v' (n+n2) (E.row (l++m)):=by
 obtain⟨i0,hi,hz,hs0,hb0⟩:=info_parts h2;obtain⟨g,o,rfl,hc⟩:=hm.at (by omega);obtain⟨v',w',hr,h3,h4,_⟩:=run_append_own (P:=P) w B t ty e i0 E.zero E.sz E.by_ ht hi hz hs0 hb0 E.zc E.pos v n (E.row l) hs ⟨g,o,none⟩ n2 c2 (E.row m) (by rw[E.row_len,hn2]) (fun j u hu=>by rw[U9];exact hc j u hu) (E.row_one m) h63 hby hB;refine⟨v',w',hr,(zbr B w).grown h4 hB (fun k hk=>(hs.lt k hk).1),⟨h4.os,h4.tape,h4.output,h4.size,fun i hi hne=>h4.block i hi (fun e=>hne e.symm)⟩,?_⟩;rw[Elt.row_app];exact h3
def ON (w:World)(B:Nat)(u:Value)(vs:List NoV):Prop:=w.ownsRow B VT Q2.sz u vs.length (Q2.row vs)
theorem ON.ev {w:World}{B:Nat}{u:Value}{vs:List NoV}(h:ON w B u vs):EV Q2 w u vs:=U3 (T:=VT) h (by simp[Q2])
theorem XN (v:NoV)(ps:List Nat)(vs:List NoV)(w:World)(hv:EV V8 w v.p ps)(hvs:vs.length=ps.length)(hnp:∀i,i<ps.length→NPv w (na ps i) (va vs i))(hl:ps.length≤100000):
  Calls prog 70 #[v.v] w fun e w'=>∃u,e=.returned u∧ON w' w.heap.size u vs∧zB w w':=by
 obtain⟨W,hW,hV,hb⟩:=x4h w v;obtain⟨a1,c1,hp,hs1,hz1,_⟩:=hv;have q2:=hV.c3;rw[hp] at q2;have HW:=zh hW;have HB:=zh hb;have Hs:=zh hs1;have Hnp:=zh hnp;have Hvs:=zh hvs;obtain⟨n,hn⟩:∃n,ps.length=n:=⟨_,rfl⟩
 have Hn:=zh hn;rw[hn] at q2 hl;rw[←hW] at q2;have tk:∀k,k<n→vs.take (k+1)=vs.take k++[va vs k]:=fun k hk=>by
  rw[List.take_succ_eq_append_getElem (by omega)];simp[va,List.getD,show k<vs.length by omega]
 have Htk:=zh tk;clear hW hV hb hs1 hz1 hp hn hvs hnp tk;obtain⟨pg,ca,cn,cc,ka,kn,kc,pa,pn,pc⟩:=v;dsimp only[NoV.c,NoV.k,NoV.p,NoV.v] at*
 go_enter func70,ntmps70
 go_wp2_with fail;rw[HW.out]
 go_loopw [3,5,10] (fun u _ i wr=>∃(k:Nat) (v:Value),v=u∧i=.int .i64 k∧k≤n∧Hid (wr.ownsRow w.heap.size VT Q2.sz v k (Q2.row (vs.take k)))∧Hid (zB w wr)) (fun _ _ i _=>n-(intOf i).toNat)
 case atStart=>exact⟨0,Z0,rfl,rfl,by omega,World.ownsRow_nil _ _ _ _,HB⟩
 case round=>
  obtain⟨k,u,rfl,rfl,hk,hown,hB⟩:=hrel
  by_cases hlt:k<n
  ·obtain⟨g2,o2,rfl,hc2⟩:=Hs.out.ptrs (by rw[Hn.out];omega);have p0:=hc2 k (by rw[Hn.out];exact hlt);have p1:wr.cell? ⟨g2,o2+k,none⟩=some (pt (na ps k)):=by
    rw[hB.out.cell (p:=⟨g2,o2+k,none⟩) (block_lt_of_cell p0)];exact p0
   have hnb:=(Hnp.out k (by rw[Hn.out];exact hlt)).ext hB.out;have r0:=hnb.c0;have r1:=hnb.c1;have r2:=hnb.c2;have r3:=hnb.c3;have hsz:=hB.out.size;have htl:(vs.take k).length=k:=by rw[zlk,Hvs.out,Hn.out];omega
   have hlit:ES Q2 (wr.alloc (.cells #[.int .i64 ((va vs k).pg:Nat),(va vs k).c,(va vs k).k,(va vs k).p] VT)) (some ⟨wr.heap.size,0,none⟩) [va vs k]:=ES.lit (Y7 wr VT #[.int .i64 ((va vs k).pg:Nat),(va vs k).c,(va vs k).k,(va vs k).p]) (by simp[Q2]);obtain⟨v1,w1,hrun,hb1,ho1⟩:=Xu (P:=prog) (w:=wr.alloc (.cells #[.int .i64 ((va vs k).pg:Nat),(va vs k).c,(va vs k).k,(va vs k).p] VT)) (E:=Q2) w.heap.size 140 140 VT underlying140 x3n u k (vs.take k) (hown.out.alloc _) (by simp;omega) (some ⟨wr.heap.size,0,none⟩) 1 1 [va vs k] rfl (fun h=>by cases h) hlit (by unfold maxLen;omega) (by show _*80≤_;omega);have Ho1:Hid (w1.ownsRow w.heap.size VT Q2.sz v1 (k+1) (Q2.row (vs.take (k+1)))):=by
    rw[Htk.out k hlt];exact ho1
   have HB1:Hid (zB w w1):=(hB.out.alloc hsz _).trans hb1;generalize na ps k=pk at*;generalize hfk2:va vs k=x at*;obtain⟨xg,xa,xn,xc,ya,yn,yc,za,zn,zc⟩:=x;dsimp only[NoV.c,NoV.k,NoV.p,NoV.v] at*;clear p0 hc2 hnb htl hlit ho1 hb1 hown hB hfk2
   go_wp2_with (at_builtin;refine Lib.wpList_append_run _ rfl (.tmp 14) (.tmp 19) _ _ rfl _ _ (by rfl) (by rfl) _ _ hrun ?_)
   clear hrun p1 r0 r1 r2 r3;go_wp2_with fail
   go_roundw
   case rel=>exact⟨k+1,v1,rfl,by go_num,by omega,Ho1,HB1⟩
   case measure=>simp[intOf];omega
  ·obtain rfl:k=n:=by omega
   have ho:=hown.out;rw[List.take_of_length_le (by rw[Hvs.out,Hn.out];exact zlr _)] at ho;have Hon:Hid (ON wr w.heap.size u vs):=by
    show wr.ownsRow _ _ _ _ _ _;rw[Hvs.out,Hn.out];exact ho
   clear hown ho;go_wp2;go_ret;exact⟨u,rfl,Hon.out,hB.out⟩
theorem ZM (n:Int)(w:World):Calls prog 43 #[.agg #[.pointer none,.int .i64 n]] w fun e w'=>e=.returned (.tuple #[.agg #[.int .i64 0,Z0,Z0,Z0],.bool false])∧zB w w':=by
 have HB:Hid (zB w ((w.alloc (.cells #[.pointer none,.int .i64 n] TT)).alloc (.cells #[.int .i64 0,Z0,Z0,Z0] VT))):=((zbr w.heap.size w).alloc (zlr _) _).alloc (by simp) _
 go_enter func43,ntmps43
 go_wp2;refine bodyPost_ret (v:=.tuple #[.agg #[.int .i64 0,Z0,Z0,Z0],.bool false]) (by rw[results_cell_tmp rfl];go_simp) rfl ⟨rfl,HB.out⟩
theorem Fy (b:Nat)(n:Int)(v:NoV)(w:World)(hb:NPv w b v):Calls prog 43 #[.agg #[pt b,.int .i64 n]] w fun e w'=>e=.returned (.tuple #[v.v,.bool true])∧zB w w':=by
 have HB:Hid (∀x,zB w ((w.alloc (.cells #[pt b,.int .i64 n] TT)).alloc (.cells x VT))):=fun x=>((zbr w.heap.size w).alloc (zlr _) _).alloc (by simp) _
 have q0:=(hb.ext (HB.out #[.int .i64 0,Z0,Z0,Z0])).c0;have q1:=(hb.ext (HB.out #[.int .i64 0,Z0,Z0,Z0])).c1;have q2:=(hb.ext (HB.out #[.int .i64 0,Z0,Z0,Z0])).c2;have q3:=(hb.ext (HB.out #[.int .i64 0,Z0,Z0,Z0])).c3;clear hb;obtain⟨pg,ca,cn,cc,ka,kn,kc,pa,pn,pc⟩:=v;dsimp only[NoV.c,NoV.k,NoV.p,NoV.v] at*
 go_enter func43,ntmps43
 go_wp2;refine bodyPost_ret (v:=.tuple #[.agg #[.int .i64 (pg:Nat),.slice ca cn cc,.slice ka kn kc,.slice pa pn pc],.bool true]) (by rw[results_cell_tmp rfl];go_simp) rfl ⟨rfl,HB.out _⟩
theorem x33 {w:World}{B B':Nat}{u:Value}{es:List En}{k:Nat}(h:OCk w B u es k)(hb:B'≤B):OCk w B' u es k:=h.elim fun xs h=>⟨xs,XL h.1 hb,h.2.1,fun j hj a ha=>znt hb (h.2.2 j hj a ha)⟩
theorem OCk.tur {w w':World}{F:Nat→Prop}{T B:Nat}{v:Value}{es:List En}{k:Nat}(h:OCk w B v es k)(ht:Zx F w w')(hF:TyF w F T)(hT:pgE.ty T=false)(hT2:T≠TCT):OCk w' B v es k:=by
 obtain⟨xs,h1,h2,h3⟩:=h;exact⟨xs,Sq h1 ht hF hT2,h2.tur ht hF hT,h3⟩
theorem z7m (pg:Nat)(v:Value)(es:List En)(w:World)(hv:CV w v es)(hl:es.length≤100000)(hch:∀e∈es,e.ch.length≤100000):
  Calls prog 99 #[.int .i64 (pg:Nat),v] w fun e w'=>∃x:NoV,e=.returned x.v∧x.pg=pg∧OCk w' w.heap.size x.c es es.length∧x.k=Z0∧x.p=Z0∧zB w w':=by
 obtain⟨W,hW,hT,hb⟩:=Z1 w VT #[.int .i64 0,Z0,Z0,Z0];have Hc:=zh (JL v es W (hv.ext hb) hl hch);have HW:=zh hW;have HB:=zh hb;have HT:=zh hT;have lg:w.heap.size<W.heap.size:=(zag.1 hT).1;clear hW hT hb hv hl hch
 go_enter func99,ntmps99
 go_wp2_with fail;rw[HW.out];refine Hc.out.mono ?_;rintro e w2 ⟨u,rfl,hoc,hb2⟩;obtain⟨a,c,hu⟩:=hoc.oc.form;subst hu;have hg:w2.heap[w.heap.size]? =some (.cells #[.int .i64 0,Z0,Z0,Z0] VT (0,0)):=(hb2.block _ lg).trans HT.out;have c0:w2.cell? ⟨w.heap.size,0,none⟩=some (.int .i64 0):=by simp[World.cell?,hg]
 have c1:w2.cell? ⟨w.heap.size,1,none⟩=some Z0:=by simp[World.cell?,hg]
 have c2:w2.cell? ⟨w.heap.size,2,none⟩=some Z0:=by simp[World.cell?,hg]
 have c3:w2.cell? ⟨w.heap.size,3,none⟩=some Z0:=by simp[World.cell?,hg]
 have f0:∀i,w2.frozen? ⟨w.heap.size,i,none⟩=false:=fun i=>by simp[World.frozen?,hg]
 have F0:=f0 0;have F1:=f0 1;have F2:=f0 2;have F3:=f0 3;have HB2:=zh (HB.out.trans (hb2.mono HB.out.size));have Hcv:=zh (x33 hoc HB.out.size);have Hg:=zh hg;obtain⟨n,hn⟩:∃n,es.length=n:=⟨_,rfl⟩
 have Hn:=zh hn;rw[hn];clear hoc hb2 f0 hn hg Hc;go_wp2_with fail;have Hp:=zh (U6 (x0:=.int .i64 (pg:Nat)) (x1:=.slice a n c) (x2:=Z0) (x3:=Z0) Hg.out);have k0:(Uv w2 w.heap.size (.int .i64 (pg:Nat)) (.slice a n c) Z0 Z0).cell? ⟨w.heap.size,0,none⟩=some (.int .i64 (pg:Nat)):=by simp[World.cell?,Hp.out]
 have k1:(Uv w2 w.heap.size (.int .i64 (pg:Nat)) (.slice a n c) Z0 Z0).cell? ⟨w.heap.size,1,none⟩=some (.slice a n c):=by simp[World.cell?,Hp.out]
 have k2:(Uv w2 w.heap.size (.int .i64 (pg:Nat)) (.slice a n c) Z0 Z0).cell? ⟨w.heap.size,2,none⟩=some Z0:=by simp[World.cell?,Hp.out]
 have k3:(Uv w2 w.heap.size (.int .i64 (pg:Nat)) (.slice a n c) Z0 Z0).cell? ⟨w.heap.size,3,none⟩=some Z0:=by simp[World.cell?,Hp.out]
 unfold Uv at k0 k1 k2 k3;refine bodyPost_ret (v:=.agg #[.int .i64 (pg:Nat),.slice a n c,Z0,Z0]) (by rw[Yk rfl];go_simp) rfl ⟨⟨pg,a,n,c,none,0,0,none,0,0⟩,rfl,rfl,?_,rfl,rfl,Sj HB2.out (zlr _)⟩;have h1:=Hcv.out;rw[Hn.out] at h1;rw[Hn.out];exact OCk.tur h1 U7 (TyF.one Hg.out) rfl (by decide)
end Go.Proofs.YtdgladhfibfdlaaGreatDoor
