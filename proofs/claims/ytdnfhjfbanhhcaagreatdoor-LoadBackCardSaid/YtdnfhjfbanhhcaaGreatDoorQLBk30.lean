/-
  Steps.
-/
import Derived.Test.YtdnfhjfbanhhcaaGreatDoorQLBk29
namespace Go.Proofs.YtdnfhjfbanhhcaaGreatDoor
open Go Go.RowKit
theorem z39:∀(a b:List En),cNs (a++b)=cNs a+cNs b
 | [],b=>by simp[cNs]
 | e::r,b=>by rw[List.cons_append,cNs,cNs,z39 r b];omega
theorem x81 (es:List En)(k:Nat)(h:k<es.length):cNs (es.take (k+1))=cNs (es.take k)+cN (ea es k):=by
 rw[z7b es k h,z39];simp[cNs]
theorem q49 (es:List En)(k:Nat):cNs (es.take k)≤cNs es:=by
 conv=>rhs;rw[←List.take_append_drop k es,z39]
 omega
theorem z9z:∀(a b:List Tr),z0f (a++b)=z0f a+z0f b
 | [],b=>by simp[z0f]
 | e::r,b=>by rw[List.cons_append,z0f,z0f,z9z r b];omega
theorem VB4.c0 {w:World}{b:Nat}{v:NoV}(h:VB4 w b v):w.cell? ⟨b,0,none⟩=some (.int .i64 (v.pg:Nat)):=by
 have h':w.heap[b]? =_:=h;simp[World.cell?,h']
theorem VB4.c1 {w:World}{b:Nat}{v:NoV}(h:VB4 w b v):w.cell? ⟨b,1,none⟩=some v.c:=by
 have h':w.heap[b]? =_:=h;simp[World.cell?,h']
theorem VB4.c2 {w:World}{b:Nat}{v:NoV}(h:VB4 w b v):w.cell? ⟨b,2,none⟩=some v.k:=by
 have h':w.heap[b]? =_:=h;simp[World.cell?,h']
theorem VB4.c3 {w:World}{b:Nat}{v:NoV}(h:VB4 w b v):w.cell? ⟨b,3,none⟩=some v.p:=by
 have h':w.heap[b]? =_:=h;simp[World.cell?,h']
theorem VB4.lt {w:World}{b:Nat}{v:NoV}(h:VB4 w b v):b<w.heap.size:=(zag.1 h).1
theorem VB4.new (w:World)(v:NoV):∃W,w.alloc (.cells #[.int .i64 (v.pg:Nat),v.c,v.k,v.p] VT)=W∧VB4 W w.heap.size v∧Below w.heap.size w W:=
 ⟨_,rfl,by show(w.heap.push _)[w.heap.size]? =_;rw[Array.getElem?_push_size],(zbr _ _).alloc (zlr _) _⟩
theorem q24 (v:NoV)(w:World)(h:v.pg≠0):Calls Tryz.prog 42 #[v.v] w fun e w'=>e=.returned (.int .i64 0)∧Below w.heap.size w w':=by
 obtain⟨W,hW,hV,hb⟩:=VB4.new w v;have Hc:=zh (z5b v W);rw[show(!decide (v.pg=0))=true by rw[zdf h];rfl] at Hc;have HW:=zh hW;have HB:=zh hb;clear hW hV hb h;obtain⟨pg,ca,cn,cc,ka,kn,kc,pa,pn,pc⟩:=v;dsimp only[NoV.c,NoV.k,NoV.p,NoV.v] at*
 go_enter Tryz.func42,Tryz.ntmps42
 go_wp2_with fail;rw[HW.out];refine Hc.out.mono ?_;rintro e w' ⟨rfl,hb⟩;have Hb:=zh (HB.out.trans (hb.mono HB.out.size));clear hb;go_wp2;go_ret;exact⟨rfl,Hb.out⟩
set_option maxRecDepth 100000 in
theorem y5r (v:NoV)(es:List En)(vs:List NoV)(ps:List Nat)(ns:List Nat)(w:World)(h0:v.pg=0)(hc:CV w v.c es)(hl:es.length≤100000)(hch:∀e∈es,e.ch.length≤100000)
  (hsz:∀e∈es,e.v.size≤2048) (hp:EV ptrE w v.p ps) (hvs:vs.length=ps.length) (hnp:∀i,i<ps.length→NPv w (na ps i) (va vs i)) (hpl:ps.length≤100000)
  (hns:ns.length=ps.length) (hsum:cNs es+ns.sum+1≤1000000)
  (ih:∀i w',i<ps.length→Below w.heap.size w w'→Calls Tryz.prog 42 #[(va vs i).v] w' fun e w''=>e=.returned (.int .i64 (na ns i:Nat))∧Below w'.heap.size w' w''):
  Calls Tryz.prog 42 #[v.v] w fun e w'=>e=.returned (.int .i64 ((cNs es+ns.sum+1:Nat):Int))∧Below w.heap.size w w':=by
 obtain⟨W,hW,hV,hb⟩:=VB4.new w v;have Hc:=zh (z5b v W);rw[show(!decide (v.pg=0))=false by rw[zdt h0];rfl] at Hc;have HW:=zh hW;have HB:=zh hb;have HV:=zh hV;have Hcv:=zh hc;have Hp:=zh hp;have Hih:=zh ih;have Hnp:=zh hnp;have Hch:=zh (zai hch hsz);have lb:w.heap.size<W.heap.size:=hV.lt;have Hsum:=zh hsum;have Hl:=zh (zai hl (zai hpl (zai hvs hns)));clear hW hV hb hc hp ih hnp hch hsz hsum hl hpl hvs hns;have Hlaid:=zh (fun(w1:World) (hx:Below w.heap.size w w1)=>z9x v es w1 (Hcv.out.below hx (zlr _)) Hl.out.1 Hch.out.1);have Hkids:=zh (fun(w1:World) (hx:Below w.heap.size w w1)=>z9y v ps vs w1 (Hp.out.below hx (zlr _)) Hl.out.2.2.1 (fun i hi=>NP.ext (Hnp.out i hi) hx) Hl.out.2.1);have hcell:Hid (∀w1,Below W.heap.size W w1→VB4 w1 w.heap.size v):=fun w1 hx=>HV.out.ext hx
 have Hpg:=zh h0;clear Hp Hnp HV h0
 go_enter Tryz.func42,Tryz.ntmps42
 go_wp2_with fail;rw[HW.out];refine Hc.out.mono ?_;rintro e w1 ⟨rfl,hb1⟩;have Hb1:=zh hb1;have q0:=(hcell.out w1 hb1).c0;have q1:=(hcell.out w1 hb1).c1;have q2:=(hcell.out w1 hb1).c2;have q3:=(hcell.out w1 hb1).c3;have HB1:=zh (HB.out.trans (hb1.mono HB.out.size));clear hb1 Hc;go_wp2_with fail;refine(Hlaid.out w1 HB1.out).mono ?_;rintro e w2 ⟨u,rfl,hoc,hb2⟩;obtain⟨n,hn⟩:∃n,es.length=n:=⟨_,rfl⟩
 have Hn:=zh hn;have hn9:n≤100000:=by have:=Hl.out.1;omega
 obtain⟨ua,uc,hu⟩:=hoc.form;subst hu;have Hu:=zh hoc.cv;rw[hn] at Hu⊢
 have HB2:=zh (HB1.out.trans (hb2.mono HB1.out.size));have Hb2:=zh (Hb1.out.trans (hb2.mono Hb1.out.size));clear hoc hb2 hn q0 q1 q2 q3 Hlaid;go_wp2_with fail
 go_loopw [3,5,13] (fun x _ i wr=>∃k A:Nat,x=.int .i64 (A:Int)∧i=.int .i64 k∧k≤n∧Hid (A=1+cNs (es.take k))∧Hid (Below w2.heap.size w2 wr)) (fun _ _ i _=>n-(intOf i).toNat)
 case atStart=>exact⟨0,1,rfl,rfl,by omega,(by show _=_;simp[cNs]),zbr _ _⟩
 case round=>
  obtain⟨k,A,rfl,rfl,hk,hA,hB⟩:=hrel
  by_cases hlt:k<n
  ·obtain⟨g,o,hua,hcell2⟩:=x5i (Hu.out.below hB.out (zlr _)) (by rw[Hn.out];omega);subst hua;obtain⟨p0,p1,_,p2,⟨sa,sc,rfl,_⟩⟩:=hcell2 k (by rw[Hn.out];exact hlt);have hstep:=x81 es k (by rw[Hn.out];exact hlt);have hle:=q49 es (k+1);have hs48:=Hch.out.2 (ea es k) (z4e (by rw[Hn.out];exact hlt));have hcN:cN (ea es k)=if (decide (64<(ea es k).v.size)&&decide ((ea es k).ch.length=0))=true then nP (ea es k).v.size else 0:=rfl
   have hsz:=hB.out.size;have hbk:Below w2.heap.size w2 (wr.alloc (.cells #[.string (ea es k).k,.string (ea es k).v,.slice sa (ea es k).ch.length sc] TCT)):=hB.out.alloc hsz _;have Hw:=zh (y5q (ea es k).k (ea es k).v sa (ea es k).ch.length sc (wr.alloc (.cells #[.string (ea es k).k,.string (ea es k).v,.slice sa (ea es k).ch.length sc] TCT)));have Hbk:=zh hbk;have hTn:=z0h wr TCT #[.string (ea es k).k,.string (ea es k).v,.slice sa (ea es k).ch.length sc];have HTn:=zh hTn;have Hsum2:Hid (1+cNs (es.take (k+1))≤1000000):=by show _≤_;have:=Hsum.out;omega
   generalize ea es k=y at*;obtain⟨yk,yv,yc⟩:=y;dsimp only at p0 p1 p2 Hw hs48 hcN hstep Hbk HTn;generalize yc.length=yn at*;obtain⟨D,hD⟩:∃D,(decide (64<yv.size)&&decide (yn=0))=D:=⟨_,rfl⟩
   rw[hD] at Hw hcN;clear hcell2 hbk hTn hD hle;go_wp2_with fail;refine Hw.out.mono ?_;rintro e w3 ⟨rfl,hb3⟩;have HB3:Hid (Below w2.heap.size w2 w3):=Hbk.out.trans (hb3.mono Hbk.out.size);have hg3:w3.heap[wr.heap.size]? =some (.cells #[.string yk,.string yv,.slice sa yn sc] TCT (0,0)):=(hb3.block _ (by simp)).trans HTn.out;have c1:w3.cell? ⟨wr.heap.size,1,none⟩=some (.string yv):=by simp[World.cell?,hg3]
   clear Hw hb3 hg3 hB Hbk HTn
   cases D with
   | false=>
    rw[if_neg (by decide)] at hcN;have hst:Hid (A=1+cNs (es.take (k+1))):=by show _=_;rw[hstep,hcN,hA.out];omega
    clear hstep hcN hA;go_wp2
    go_roundw
    case rel=>exact⟨k+1,A,rfl,by go_num,by omega,hst,HB3⟩
    case measure=>simp[intOf];omega
   | true=>
    rw[if_pos rfl] at hcN;have hst:Hid (A+nP yv.size=1+cNs (es.take (k+1))):=by show _=_;rw[hstep,hcN,hA.out];omega
    have Hct:=zh (x39 (yv.size:Int) w3 (by omega) (by omega));rw[q4l] at Hct;have hsum3:=Hsum2.out;rw[←hst.out] at hsum3;obtain⟨C,hC⟩:∃C,nP yv.size=C:=⟨_,rfl⟩
    rw[hC] at hst hsum3 Hct;clear hstep hcN hC hA;go_wp2_with fail;refine Hct.out.mono ?_;rintro e w' ⟨rfl,rfl⟩;have z1:IntKind.i64.wrap ((A:Int)+(C:Int))=((A+C:Nat):Int):=by rw[IntKind.wrap_i64];omega
    clear Hct hsum3;go_wp2
    go_roundw
    case rel=>exact⟨k+1,A+C,by go_num,by go_num,by omega,hst,HB3⟩
    case measure=>simp[intOf];omega
  ·obtain rfl:k=n:=by omega
   have HA:Hid (A=1+cNs es):=by
    have h1:=hA.out;rw[List.take_of_length_le (by rw[Hn.out];exact zlr _)] at h1;exact h1
   have hbx:=Hb2.out.trans (hB.out.mono Hb2.out.size);have q0:=(hcell.out wr hbx).c0;have q1:=(hcell.out wr hbx).c1;have q2:=(hcell.out wr hbx).c2;have q3:=(hcell.out wr hbx).c3;have HBr:=zh (HB2.out.trans (hB.out.mono HB2.out.size));clear hbx hB hA;go_wp2_with fail;refine(Hkids.out wr HBr.out).mono ?_;rintro e w3 ⟨u3,rfl,hon,hb3⟩;have hev:=hon.ev;obtain⟨ka3,kc3,hu3,hs3,_⟩:=hev;subst hu3;have hvl:vs.length=ps.length:=Hl.out.2.2.1;obtain⟨m,hm⟩:∃m,ps.length=m:=⟨_,rfl⟩
   have Hm:=zh hm;have hm9:m≤100000:=by have:=Hl.out.2.1;omega
   rw[hvl,hm];have Hs3:=zh hs3;have HB3:=zh (HBr.out.trans (hb3.mono HBr.out.size));clear hon hb3 hs3 hvl hm q0 q1 q2 q3;go_wp2_with fail
   go_loopw [3,7,30] (fun x _ i wr=>∃k X:Nat,x=.int .i64 (X:Int)∧i=.int .i64 k∧k≤m∧Hid (X=A+(ns.take k).sum)∧Hid (Below w3.heap.size w3 wr)) (fun _ _ i _=>m-(intOf i).toNat)
   case atStart=>exact⟨0,A,rfl,rfl,by omega,(by show _=_;simp),zbr _ _⟩
   case round=>
    obtain⟨k,X,rfl,rfl,hk,hX,hB⟩:=hrel
    by_cases hlt:k<m
    ·obtain⟨g,o,hua,hcell2⟩:=(Hs3.out.below hB.out (zlr _)).nods (by have:=Hl.out.2.2.1;have:=Hm.out;omega);subst hua;obtain⟨p0,p1,p2,p3⟩:=hcell2 k (by have:=Hl.out.2.2.1;have:=Hm.out;omega);have hsz:=hB.out.size;have hnl:k<ns.length:=by have:=Hl.out.2.2.2;have:=Hm.out;omega
     have hstep:(ns.take (k+1)).sum=(ns.take k).sum+na ns k:=by rw[z5u ns k hnl,List.sum_append];simp
     have hle:(ns.take (k+1)).sum≤ns.sum:=by
      conv=>rhs;rw[←List.take_append_drop (k+1) ns,List.sum_append]
      omega
     have hbk:Below w3.heap.size w3 (wr.alloc (.cells #[.int .i64 ((va vs k).pg:Nat),(va vs k).c,(va vs k).k,(va vs k).p] VT)):=hB.out.alloc hsz _;have Hcall:=zh (Hih.out k (wr.alloc (.cells #[.int .i64 ((va vs k).pg:Nat),(va vs k).c,(va vs k).k,(va vs k).p] VT)) (by rw[Hm.out];exact hlt) (HB3.out.trans (hbk.mono HB3.out.size)));have Hbk:=zh hbk;have hsm:=Hsum.out;have hA2:=HA.out;have hst:Hid (X+na ns k=A+(ns.take (k+1)).sum):=by show _=_;have:=hX.out;omega
     have hX2:=hX.out;obtain⟨Y,hY⟩:∃Y,na ns k=Y:=⟨_,rfl⟩
     have z1:IntKind.i64.wrap ((X:Int)+(Y:Int))=((X+Y:Nat):Int):=by rw[IntKind.wrap_i64];omega
     rw[hY] at hst Hcall;clear hstep hle hbk hsm hA2 hY hB hnl hcell2 hX hX2;generalize va vs k=x at*;obtain⟨xg,xa,xn,xc,ya,yn,yc,za,zn,zc⟩:=x;dsimp only[NoV.c,NoV.k,NoV.p,NoV.v] at*;go_wp2_with fail;refine Hcall.out.mono ?_;rintro e w4 ⟨rfl,hb4⟩;have HB4:=zh (Hbk.out.trans (hb4.mono Hbk.out.size));clear hb4 Hcall Hbk;go_wp2
     go_roundw
     case rel=>exact⟨k+1,X+Y,by go_num,by go_num,by omega,hst,HB4⟩
     case measure=>simp[intOf];omega
    ·obtain rfl:k=m:=by omega
     have hfin:Hid (X=cNs es+ns.sum+1):=by
      show _=_;have h1:=hX.out;rw[List.take_of_length_le (by have:=Hl.out.2.2.2;have:=Hm.out;omega)] at h1;have:=HA.out;omega
     have HBf:=zh (HB3.out.trans (hB.out.mono HB3.out.size));clear hB hX;go_wp2;go_ret;exact⟨by rw[←hfin.out];rfl,HBf.out⟩
theorem KRow.vals {w:World}{h:Nat}{ks:List ByteArray}{lo hi:SB}{ps:List Nat}{ts:List Tr}(hr:KRow (z09 w h) ks lo hi ps ts):
  ∃vs:List NoV,vs.length=ps.length∧∀i,i<ps.length→NPv w (na ps i) (va vs i)∧NdVT w h (lob lo ks i) (hib hi ks i) (va vs i) (ta ts i)∧126≤(ta ts i).sz∧(ta ts i).sz≤504:=by
 have hl:=hr.len;have hex:∀k,k<ps.length→∃x:NoV,NPv w (na ps k) x∧NdVT w h (lob lo ks k) (hib hi ks k) x (ta ts k)∧126≤(ta ts k).sz∧(ta ts k).sz≤504:=fun k hk=>by
  obtain⟨h1,h2,h3⟩:z09 w h (lob lo ks k) (hib hi ks k) (na ps k) (ta ts k):=hr.kid (d:=default) (by omega);obtain⟨x,h4,h5⟩:=h1.val;exact⟨x,h4,h5,h2,h3⟩
 refine⟨(List.range ps.length).map (fun k=>if hk:k<ps.length then Classical.choose (hex k hk) else default),by simp,fun i hi=> ?_⟩;have e:va ((List.range ps.length).map (fun k=>if hk:k<ps.length then Classical.choose (hex k hk) else default)) i=Classical.choose (hex i hi):=by
  unfold va;simp[List.getD,hi]
 rw[e];exact Classical.choose_spec (hex i hi)
theorem q5a (ts:List Tr)(f:Tr→Nat)(i:Nat)(h:i<ts.length):na (ts.map f) i=f (ta ts i):=by
 unfold na ta;simp[List.getD,h]
theorem z90:∀(ts:List Tr),z0f ts=(ts.map Tr.need).sum
 | []=>by simp[z0f]
 | t::r=>by rw[z0f,z90 r];simp
theorem z8b {ts:List Tr}{i:Nat}(h:i<ts.length):ta ts i∈ts:=by
 unfold ta;simp[List.getD,h]
theorem y22 {e:En}{t:Tr}:∀{ts:List Tr},t∈ts→e∈t.es→e∈esL ts
 | [],h,_=>by cases h
 | u::r,h,he=>by
  rw[esL]
  rcases List.mem_cons.1 h with rfl|h
  ·exact List.mem_append_left _ he
  ·exact List.mem_append_right _ (y22 h he)
theorem y5s {t:Tr}:∀{ts:List Tr},t∈ts→t.need≤z0f ts
 | [],h=>by cases h
 | u::r,h=>by
  rw[z0f]
  rcases List.mem_cons.1 h with rfl|h
  ·omega
  ·have:=y5s h;omega
theorem y9h:∀(h:Nat) {lo hi:SB} (v:NoV) (t:Tr) (w:World),NdVT w h lo hi v t→t.sz≤504→(∀e∈t.es,e.ch.length≤100000)→t.need≤1000000→
  Calls Tryz.prog 42 #[v.v] w fun e w'=>e=.returned (.int .i64 (t.need:Nat))∧Below w.heap.size w w'
 | h,lo,hi,v,t,w,hn,hz,hch,hnd=>by
  by_cases h0:v.pg=0
  ·cases h with
   | zero=>
    obtain⟨es,rfl,h1,h2,h3,_,_,h4⟩:=hn;rw[Tr.need,if_pos h0] at hnd⊢
    rw[Tr.es] at hch;simp only[Tr.sz] at hz;have hr:=z1i (fun x hx=>(h4 x hx).1);have:=y5r v es [] [] [] w h0 h3 (by unfold z0s at hz;omega) hch (fun e he=>(h4 e he).1.2) (by rw[h2];exact EV.none _) rfl (fun i hi=>by simp at hi) (by simp) rfl (by simpa using hnd) (fun i w' hi _=>by simp at hi)
    simpa using this
   | succ h=>
    obtain⟨ks,ps,ts,rfl,h1,h2,h3,hr⟩:=hn;rw[Tr.need,if_pos h0] at hnd⊢
    rw[Tr.es] at hch;simp only[Tr.sz] at hz;obtain⟨vs,hvl,hvs⟩:=hr.vals;have hl:=hr.len;have hkr:=z0u hr.factsT.2.2.2;rw[z90] at hnd⊢
    have:=y5r v [] vs ps (ts.map Tr.need) w h0 (by rw[h1];exact CV.none _) (by simp) (fun e he=>by cases he) (fun e he=>by cases he) h3 hvl (fun i hi=>(hvs i hi).1) (by unfold brSz at hz;omega) (by rw[List.length_map];omega) (by simpa [cNs] using hnd) (fun i w' hi hb=>by
     rw[q5a ts Tr.need i (by omega)];obtain⟨g1,g2,g3,g4⟩:=hvs i hi;have hm:ta ts i∈ts:=z8b (by omega);exact y9h h (va vs i) (ta ts i) w' (g2.ext hb) g4 (fun e he=>hch e (y22 hm he)) (by have:=y5s hm;rw[z90] at this;omega))
    simpa [cNs] using this
  ·rw[show t.need=0 from y4s t (by rw[hn.pg];exact h0)];exact q24 v w h0
theorem x1a (key v:ByteArray)(w:World):
  Calls Tryz.prog 48 #[.string key,.string v] w fun e w'=>e=.returned (.agg #[.string key,.string v,nilS])∧Below w.heap.size w w':=by
 go_enter Tryz.func48,Tryz.ntmps48
 go_wp2_with fail;refine bodyPost_ret (v:=.agg #[.string key,.string v,nilS]) (by rw[z0c rfl];go_simp) rfl ⟨rfl,?_⟩;exact(zbr _ _).alloc (zlr _) _
theorem x82 (w:World)(key v:ByteArray):CS (w.alloc (.cells #[.string key,.string v,nilS] TCT)) (some ⟨w.heap.size,0,none⟩) [⟨key,v,[]⟩]:=
 ⟨[⟨key,v,none,0,0⟩],ES.lit (E:=celE) (l:=[⟨key,v,none,0,0⟩]) (z0h w _ _),⟨rfl,rfl,EV.none _⟩,trivial⟩
theorem y9i {es:List En}{key v:ByteArray}(hs:bare es=es)(h:isE es key=true)(hv:getE es key=v):rep es key [⟨key,v,[]⟩]=es:=by
 have h1:=y4f es key;rw[h] at h1;have h2:=h1.symm;rw[Bool.and_eq_true,decide_eq_true_iff] at h2;have h3:getE es key=(ea es (fE es key)).v:=by unfold getE;rw[if_pos h]
 have h4:z12 es key=1:=by unfold z12;rw[if_pos h]
 have h5:ea es (fE es key)=⟨key,v,[]⟩:=by
  have e1:=z9d h2.2;have e2:(ea es (fE es key)).v=v:=h3.symm.trans hv;have e3:(ea es (fE es key)).ch=[]:=by
   conv=>lhs;rw[←hs]
   rw[x3q];rfl
  cases hx:ea es (fE es key) with
  | mk k' v' c'=>rw[hx] at e1 e2 e3;simp only at e1 e2 e3;rw[e1,e2,e3]
 unfold rep;rw[h4,←h5]
 conv=>rhs;rw[←List.take_append_drop (fE es key) es,y17 es _ h2.1]
 rfl
theorem x5j (w:World)(p:Option Addr)(n:Int):∃W,(w.alloc (.cells #[.pointer p,.int .i64 n] TT)).alloc (.cells #[.pointer none,.int .i64 0] TT)=W∧TB W w.heap.size p n∧TB W (w.heap.size+1) none 0∧Below w.heap.size w W:=by
 obtain⟨W1,hW1,hT1,hb1⟩:=z0b w TT #[.pointer p,.int .i64 n];obtain⟨W2,hW2,hT2,hb2⟩:=z0b W1 TT #[.pointer none,.int .i64 0];have hs1:W1.heap.size=w.heap.size+1:=by rw[←hW1];simp
 exact⟨W2,by rw[hW1,hW2],TB.ext (w:=W1) hT1 hb2,by rw[←hs1];exact hT2,hb1.trans (hb2.mono hb1.size)⟩
set_option maxRecDepth 100000 in
theorem y9j (p:Option Addr)(n:Int)(es:List En)(key v:ByteArray)(w:World)(h:okK key=false∨2048<v.size):
  Calls Tryz.prog 25 #[.agg #[.pointer p,.int .i64 n],.string key,.string v] w fun e w'=>e=.returned (.tuple #[.agg #[.pointer none,.int .i64 0],errC (tpF es key v:Nat)])∧Below w.heap.size w w':=by
 have hch:=fun w=>z54 key w
 by_cases hk:okK key=false
 ·have ht:Hid (tpF es key v=1):=by show _=_;unfold tpF;rw[if_pos hk]
  have hv:chkV key=.iface 94 (.int .i64 1):=by unfold chkV;rw[hk];rfl
  rw[hv] at hch;have Hch:=zh hch;rw[show errC ((tpF es key v:Nat):Int)=.iface 94 (.int .i64 1) by rw[ht.out];rfl];clear hch hv hk h
  go_enter Tryz.func25,Tryz.ntmps25
  go_wp2_with fail;refine(Hch.out _).mono ?_;rintro e w' ⟨rfl,rfl⟩;go_wp2_with fail;refine bodyPost_ret (v:=.tuple #[.agg #[.pointer none,.int .i64 0],.iface 94 (.int .i64 1)]) (by rw[results_cell_tmp rfl];go_simp) rfl ⟨rfl,?_⟩;exact((zbr _ _).alloc (zlr _) _).alloc (by simp) _
 ·have hv2:2048<v.size:=by rcases h with h|h;exact absurd h hk;exact h
  have ht:Hid (tpF es key v=5):=by show _=_;unfold tpF;rw[if_neg hk,if_pos hv2]
  have hk1:okK key=true:=by simpa using hk
  have hv:chkV key=.nilIface:=by unfold chkV;rw[hk1];rfl
  rw[hv] at hch;have Hch:=zh hch;rw[show errC ((tpF es key v:Nat):Int)=.iface 94 (.int .i64 5) by rw[ht.out];rfl];have d3:decide (2048<(v.size:Int))=true:=zdt (by omega);clear hch hv hk hk1 h hv2
  go_enter Tryz.func25,Tryz.ntmps25
  go_wp2_with fail;refine(Hch.out _).mono ?_;rintro e w' ⟨rfl,rfl⟩;go_wp2_with fail;refine bodyPost_ret (v:=.tuple #[.agg #[.pointer none,.int .i64 0],.iface 94 (.int .i64 5)]) (by rw[results_cell_tmp rfl];go_simp) rfl ⟨rfl,?_⟩;exact((zbr _ _).alloc (zlr _) _).alloc (by simp) _
def z5z (ts ts':List Tr)(H':Nat)(key v:ByteArray):Prop:=
 (esL ts'=rep (esL ts) key [⟨key,v,[]⟩]∧Fr ts ts' (2*H'))∨(ts'=ts∧isE (esL ts) key=true∧getE (esL ts) key=v)
theorem z5z.ste {ts ts':List Tr}{H':Nat}{key v:ByteArray}(h:z5z ts ts' H' key v):bare (esL ts')=rep (bare (esL ts)) key [⟨key,v,[]⟩]:=by
 rcases h with ⟨h,_⟩|⟨rfl,h1,h2⟩
 ·rw[h,x7r];rfl
 ·exact(y9i (x3n _) (by rw[(z4o _ _).2];exact h1) (by rw[y4g];exact h2)).symm
theorem z5z.len {ts ts':List Tr}{H':Nat}{key v:ByteArray}(h:z5z ts ts' H' key v):(esL ts').length=(rep (esL ts) key [⟨key,v,[]⟩]).length:=by
 have h1:=congrArg List.length h.ste;rw[z1p] at h1;have h2:=z7c (bare (esL ts)) key [⟨key,v,[]⟩];have h3:=z7c (esL ts) key [⟨key,v,[]⟩];unfold z12 at h2 h3;rw[(z4o _ _).2,z1p] at h2;omega
theorem z5z.fr {ts ts':List Tr}{H':Nat}{key v:ByteArray}(h:z5z ts ts' H' key v):Fr ts ts' (2*H'):=by
 rcases h with ⟨_,h⟩|⟨rfl,_⟩
 ·exact h
 ·exact(Fr.refl _).mono (by omega)
set_option maxRecDepth 100000 in
theorem x83 (p:Option Addr)(ts:List Tr)(H:Nat)(key v:ByteArray)(w:World)(ht:z0y w p ts H)(hl:(esL ts).length≤4096)(hk:okK key=true)(hv:v.size≤2048):
  Calls Tryz.prog 25 #[.agg #[.pointer p,.int .i64 (esL ts).length],.string key,.string v] w fun e w'=>∃p' ts' H',e=.returned (.tuple #[.agg #[.pointer p',.int .i64 ((esL ts').length:Nat)],errC (tpF (esL ts) key v:Nat)])∧z0y w' p' ts' H'∧
   ((tpF (esL ts) key v≠0∧ts'=[])∨(tpF (esL ts) key v=0∧z5z ts ts' H' key v))∧Below w.heap.size w w':=by
 have hch:=fun w=>z54 key w
 rw[show chkV key=.nilIface by unfold chkV;rw[hk];rfl] at hch;have Hch:=zh hch;have d3:decide (2048<(v.size:Int))=false:=zdf (by omega);obtain⟨es,hes⟩:∃es,esL ts=es:=⟨_,rfl⟩
 have Hes:=zh hes;rw[hes] at hl⊢
 obtain⟨W,hW,hT1,hT2,hb⟩:=x5j w p es.length;have hq:=(ht.ext hb).tq;rw[hes] at hq;have Hget:=zh (y9e p es.length es H key W hq);have HW:=zh hW;have HT:=zh (zai hT1 hT2);have HB:=zh hb;have Htr:=zh ht;have HtF:Hid (tpF es key v=if isE es key=false∧4096≤es.length then 7 else 0):=by
  show _=_;unfold tpF;rw[if_neg (by rw[hk];decide),if_neg (by omega)]
 have hlen:=z7c es key [⟨key,v,[]⟩];have hgo:z12 es key=if isE es key=true then 1 else 0:=rfl
 have hcore:∀(w3:World) (m:Int),Below W.heap.size W w3→IntKind.i64.wrap ((es.length:Int)+m)=((rep es key [⟨key,v,[]⟩]).length:Int)→
   ∃w4,w3.alloc (.cells #[.string key,.string v,nilS] TCT)=w4∧Below w3.heap.size w3 w4∧Calls Tryz.prog 47 #[.agg #[.pointer p,.int .i64 es.length],.int .i64 m,.string key,.slice (some ⟨w3.heap.size,0,none⟩) 1 1] w4 (fun e w'=>∃p' ts' H',e=.returned (.agg #[.pointer p',.int .i64 ((rep es key [⟨key,v,[]⟩]).length:Nat)])∧
    z0y w' p' ts' H'∧(esL ts'=rep es key [⟨key,v,[]⟩]∧Fr ts ts' (2*H'))∧Below w4.heap.size w4 w'):=fun w3 m h2 hm=>by
  have h3:Below w3.heap.size w3 (w3.alloc (.cells #[.string key,.string v,nilS] TCT)):=(zbr _ _).alloc (zlr _) _;have h23:=h2.trans (h3.mono h2.size);have hw3:=hb.trans (h23.mono hb.size);refine⟨_,rfl,h3,?_⟩;have:=y7i p ts es.length m _ key _ 1 1 [⟨key,v,[]⟩] _ (.inr ⟨v,rfl⟩) (fun x hx=>by
   simp only[List.mem_singleton] at hx;subst hx;exact⟨hk,hv⟩) rfl (fun h=>by cases h) (x82 w3 key v) H (ht.ext hw3) hm
  rw[hes] at this;exact this
 have Hcore:=zh hcore;have Hco:=zh (fun w=>x1a key v w);clear hch hW hT1 hT2 hb ht hk hv hcore hq hes
 go_enter Tryz.func25,Tryz.ntmps25
 go_wp2_with fail;refine(Hch.out _).mono ?_;rintro e w' ⟨rfl,rfl⟩;clear Hch;go_wp2_with fail;rw[HW.out];refine Hget.out.mono ?_;rintro e w2 ⟨rfl,hb2⟩;clear Hget;have a0:=(HT.out.1.ext hb2).c0;have a1:=(HT.out.1.ext hb2).c1;have hR:=HT.out.2.ext hb2;have r0:=hR.c0;have r1:=hR.c1;have f0:=hR.fz 0;have f1:=hR.fz 1;have HR:=zh hR;have HB2:=zh (HB.out.trans (hb2.mono HB.out.size));have Hb2:=zh hb2;clear hb2 hR
 cases hI:isE es key with
 | false=>
  have hg0:z12 es key=0:=by rw[hgo,hI];rfl
  by_cases hfull:4096≤es.length
  ·have hT7:Hid (tpF es key v=7):=by show _=_;rw[HtF.out,if_pos ⟨hI,hfull⟩]
   have d4:((es.length:Int)==4096)=true:=by rw[beq_iff_eq];omega
   have HP:=zh (HR.out.put none 0);have e0:=HP.out.c0;have e1:=HP.out.c1;clear Hcore hlen hgo hg0 HtF;go_wp2_with fail;refine bodyPost_ret (v:=.tuple #[.agg #[.pointer none,.int .i64 0],.iface 94 (.int .i64 7)]) (by rw[results_cell_tmp rfl];go_simp) rfl ⟨none,[],0,by rw[hT7.out];rfl,z0y.none _,.inl ⟨by rw[hT7.out];decide,rfl⟩,z1m HB2.out (by omega)⟩
  ·have hT0:Hid (tpF es key v=0):=by show _=_;rw[HtF.out,if_neg (fun h=>hfull h.2)]
   have d4:((es.length:Int)==4096)=false:=by rw[beq_eq_false_iff_ne];omega
   have hM:IntKind.i64.wrap ((es.length:Int)+1)=((rep es key [⟨key,v,[]⟩]).length:Int):=by rw[hg0] at hlen;rw[IntKind.wrap_i64];simp at hlen;omega
   have HM:=zh hM;clear hlen hgo hg0 HtF r0 r1 f0 f1 hM;obtain⟨W3,hW3⟩:∃W,w2.drew=W:=⟨_,rfl⟩
   have hd3:Below w2.heap.size w2 W3:=by rw[←hW3];exact(zbr _ _).drew
   have l2:w.heap.size+2≤w2.heap.size:=by have:=HR.out.lt;omega
   have hA3:=(HT.out.1.ext Hb2.out).ext hd3;have hR3:=HR.out.ext hd3;have q0:∀w',Turn (fun i=>i=w.heap.size+1) W3 w'→w'.cell? ⟨w.heap.size,0,none⟩=some (.pointer p):=fun w' t=>(hA3.turn t (by omega)).c0
   have q1:∀w',Turn (fun i=>i=w.heap.size+1) W3 w'→w'.cell? ⟨w.heap.size,1,none⟩=some (.int .i64 (es.length:Int)):=fun w' t=>(hA3.turn t (by omega)).c1
   have HW3:=zh hW3;have Hb3:=zh (Hb2.out.trans (hd3.mono Hb2.out.size));have HB3:=zh (HB2.out.trans (hd3.mono HB2.out.size));have HR3:=zh hR3;clear hW3 hd3 hA3 hR3 HT HR HB2 Hb2 Htr HB;go_wp2_with fail;refine z0k (F:=fun i=>i=w.heap.size+1) [(0,true),(1,true),(2,true),(3,true),(4,false),(5,false),(6,false),(7,false),(8,true)] (by kernel_rfl) (by kernel_rfl) (by kernel_rfl) (by kernel_rfl) (fun _ _ _ _ _ h=>h) ?_;rw[HW3.out];iterate 4 (refine gtr (v:= ?_) rfl (by rfl) ?_ ?_;rotate_left;(intro w' hw';go_simp;with_reducible rfl);simp only[Act.put,zs0,zs1,zs2])
   clear q0 q1;refine gtc rfl (by rfl) (fun K hK=> ?_);go_simp;refine(Hco.out W3).mono ?_;rintro e w3 ⟨rfl,hb3⟩;refine hK _ _ (q5w hb3) ?_;clear hK K;obtain⟨w4,hw4,hb4,hc4⟩:=Hcore.out w3 1 (Hb3.out.trans (hb3.mono Hb3.out.size)) HM.out;have Hw4:=zh hw4;have Hc4:=zh hc4;have hb34:=hb3.trans (hb4.mono hb3.size);replace HB3:=zh (HB3.out.trans (hb34.mono HB3.out.size));replace HR3:=zh (HR3.out.ext hb34);have Hb4:=zh hb4;clear Hcore hw4 hc4 hb34 hb3 hb4 Hb3;refine gtc rfl (by rfl) (fun K hK=> ?_);go_simp;rw[Hw4.out];refine hK _ _ (q5w Hb4.out) ?_;clear hK K;obtain⟨N,hN⟩:∃N,(rep es key [⟨key,v,[]⟩]).length=N:=⟨_,rfl⟩
   have HN:=zh hN;rw[hN] at Hc4;clear hN Hb4;refine gtc rfl (by rfl) (fun K hK=> ?_);go_simp;refine Hc4.out.mono ?_;rintro e w5 ⟨p5,ts5,H5,rfl,ht5,hf5,hb5⟩;refine hK _ _ (q5w hb5) ?_;clear hK K Hc4;have hR5:=HR3.out.ext hb5;have HB5:=zh (HB3.out.trans (hb5.mono HB3.out.size));have f0:=hR5.fz 0;have f1:=hR5.fz 1;have r0:=hR5.c0;have r1:=hR5.c1;have HT5:=zh (ht5.turn (z0m w5 (w.heap.size+1) (.pointer p5) (.int .i64 (N:Int))) (TF.one hR5));have HP:=zh (hR5.put p5 (N:Int));have HF5:=zh hf5;clear hb5 hR5 ht5 hf5 HB3 HR3;refine gtc rfl (by rfl) (fun K hK=> ?_);go_simp;refine hK _ _ (z0m _ _ _ _) ?_;clear hK K
   (refine gtr (v:= ?_) rfl (by rfl) ?_ ?_;rotate_left;(intro w' hw';go_simp;with_reducible rfl);simp only[Act.put,zs0,zs1,zs2])
   refine z0z ?_;have d0:=HP.out.c0;have d1:=HP.out.c1;go_wp2_with fail;refine bodyPost_ret (v:=.tuple #[.agg #[.pointer p5,.int .i64 (N:Int)],.nilIface]) (by rw[results_cell_tmp rfl];go_simp) rfl ⟨p5,ts5,H5,by rw[HF5.out.1,HN.out,hT0.out];rfl,HT5.out,.inr ⟨hT0.out,.inl ⟨by rw[Hes.out];exact HF5.out.1,HF5.out.2⟩⟩,z1m HB5.out (by omega)⟩
 | true=>
  have hg1:z12 es key=1:=by rw[hgo,hI];rfl
  have hT0:Hid (tpF es key v=0):=by show _=_;rw[HtF.out,if_neg (fun h=>by rw[hI] at h;cases h.1)]
  by_cases hsame:getE es key=v
  ·have dv:((getE es key).toList==v.toList)=true:=by rw[hsame];exact x7p v
   have HT4:=zh (((Htr.out.ext HB.out).ext Hb2.out).turn (z0m w2 (w.heap.size+1) (.pointer p) (.int .i64 (es.length:Int))) (TF.one HR.out));have HP:=zh (HR.out.put p (es.length:Int));have e0:=HP.out.c0;have e1:=HP.out.c1;have Hput:Hid (z5z ts ts H key v):=.inr ⟨rfl,by rw[Hes.out];exact hI,by rw[Hes.out];exact hsame⟩;clear Hcore hlen hgo hg1 HtF hsame;generalize getE es key=G at*;go_wp2_with fail;refine bodyPost_ret (v:=.tuple #[.agg #[.pointer p,.int .i64 (es.length:Int)],.nilIface]) (by rw[results_cell_tmp rfl];go_simp) rfl ⟨p,ts,H,by rw[Hes.out,hT0.out];rfl,HT4.out,.inr ⟨hT0.out,Hput.out⟩,z1m HB2.out (by omega)⟩
  ·have dv:((getE es key).toList==v.toList)=false:=by
    cases hx:((getE es key).toList==v.toList) with
    | false=>rfl
    | true=>exact absurd (z9d hx) hsame
   have hM:IntKind.i64.wrap ((es.length:Int)+0)=((rep es key [⟨key,v,[]⟩]).length:Int):=by rw[hg1] at hlen;rw[IntKind.wrap_i64];simp at hlen;omega
   have HM:=zh hM;clear hlen hgo hg1 HtF r0 r1 f0 f1 hM hsame;generalize getE es key=G at*;obtain⟨W3,hW3⟩:∃W,w2.drew=W:=⟨_,rfl⟩
   have hd3:Below w2.heap.size w2 W3:=by rw[←hW3];exact(zbr _ _).drew
   have l2:w.heap.size+2≤w2.heap.size:=by have:=HR.out.lt;omega
   have hA3:=(HT.out.1.ext Hb2.out).ext hd3;have hR3:=HR.out.ext hd3;have q0:∀w',Turn (fun i=>i=w.heap.size+1) W3 w'→w'.cell? ⟨w.heap.size,0,none⟩=some (.pointer p):=fun w' t=>(hA3.turn t (by omega)).c0
   have q1:∀w',Turn (fun i=>i=w.heap.size+1) W3 w'→w'.cell? ⟨w.heap.size,1,none⟩=some (.int .i64 (es.length:Int)):=fun w' t=>(hA3.turn t (by omega)).c1
   have HW3:=zh hW3;have Hb3:=zh (Hb2.out.trans (hd3.mono Hb2.out.size));have HB3:=zh (HB2.out.trans (hd3.mono HB2.out.size));have HR3:=zh hR3;clear hW3 hd3 hA3 hR3 HT HR HB2 Hb2 Htr HB;go_wp2_with fail;refine z0k (F:=fun i=>i=w.heap.size+1) [(0,true),(1,true),(2,true),(3,true),(4,false),(5,false),(6,false),(7,false),(8,true)] (by kernel_rfl) (by kernel_rfl) (by kernel_rfl) (by kernel_rfl) (fun _ _ _ _ _ h=>h) ?_;rw[HW3.out];iterate 4 (refine gtr (v:= ?_) rfl (by rfl) ?_ ?_;rotate_left;(intro w' hw';go_simp;with_reducible rfl);simp only[Act.put,zs0,zs1,zs2])
   clear q0 q1;refine gtc rfl (by rfl) (fun K hK=> ?_);go_simp;refine(Hco.out W3).mono ?_;rintro e w3 ⟨rfl,hb3⟩;refine hK _ _ (q5w hb3) ?_;clear hK K;obtain⟨w4,hw4,hb4,hc4⟩:=Hcore.out w3 0 (Hb3.out.trans (hb3.mono Hb3.out.size)) HM.out;have Hw4:=zh hw4;have Hc4:=zh hc4;have hb34:=hb3.trans (hb4.mono hb3.size);replace HB3:=zh (HB3.out.trans (hb34.mono HB3.out.size));replace HR3:=zh (HR3.out.ext hb34);have Hb4:=zh hb4;clear Hcore hw4 hc4 hb34 hb3 hb4 Hb3;refine gtc rfl (by rfl) (fun K hK=> ?_);go_simp;rw[Hw4.out];refine hK _ _ (q5w Hb4.out) ?_;clear hK K;obtain⟨N,hN⟩:∃N,(rep es key [⟨key,v,[]⟩]).length=N:=⟨_,rfl⟩
   have HN:=zh hN;rw[hN] at Hc4;clear hN Hb4;refine gtc rfl (by rfl) (fun K hK=> ?_);go_simp;refine Hc4.out.mono ?_;rintro e w5 ⟨p5,ts5,H5,rfl,ht5,hf5,hb5⟩;refine hK _ _ (q5w hb5) ?_;clear hK K Hc4;have hR5:=HR3.out.ext hb5;have HB5:=zh (HB3.out.trans (hb5.mono HB3.out.size));have f0:=hR5.fz 0;have f1:=hR5.fz 1;have r0:=hR5.c0;have r1:=hR5.c1;have HT5:=zh (ht5.turn (z0m w5 (w.heap.size+1) (.pointer p5) (.int .i64 (N:Int))) (TF.one hR5));have HP:=zh (hR5.put p5 (N:Int));have HF5:=zh hf5;clear hb5 hR5 ht5 hf5 HB3 HR3;refine gtc rfl (by rfl) (fun K hK=> ?_);go_simp;refine hK _ _ (z0m _ _ _ _) ?_;clear hK K
   (refine gtr (v:= ?_) rfl (by rfl) ?_ ?_;rotate_left;(intro w' hw';go_simp;with_reducible rfl);simp only[Act.put,zs0,zs1,zs2])
   refine z0z ?_;have d0:=HP.out.c0;have d1:=HP.out.c1;go_wp2_with fail;refine bodyPost_ret (v:=.tuple #[.agg #[.pointer p5,.int .i64 (N:Int)],.nilIface]) (by rw[results_cell_tmp rfl];go_simp) rfl ⟨p5,ts5,H5,by rw[HF5.out.1,HN.out,hT0.out];rfl,HT5.out,.inr ⟨hT0.out,.inl ⟨by rw[Hes.out];exact HF5.out.1,HF5.out.2⟩⟩,z1m HB5.out (by omega)⟩
theorem y23 (p:Option Addr)(ts:List Tr)(H:Nat)(key v:ByteArray)(w:World)(ht:z0y w p ts H)(hl:(esL ts).length≤4096):
  Calls Tryz.prog 25 #[.agg #[.pointer p,.int .i64 (esL ts).length],.string key,.string v] w fun e w'=>∃p' ts' H',e=.returned (.tuple #[.agg #[.pointer p',.int .i64 ((esL ts').length:Nat)],errC (tpF (esL ts) key v:Nat)])∧z0y w' p' ts' H'∧
   ((tpF (esL ts) key v≠0∧ts'=[])∨(tpF (esL ts) key v=0∧z5z ts ts' H' key v))∧Below w.heap.size w w':=by
 by_cases hk:okK key=false∨2048<v.size
 ·refine(y9j p (esL ts).length (esL ts) key v w hk).mono ?_;rintro e w' ⟨rfl,hb⟩;have:tpF (esL ts) key v≠0:=by
   unfold tpF
   rcases hk with hk|hk
   ·rw[if_pos hk];decide
   ·by_cases hk1:okK key=false
    ·rw[if_pos hk1];decide
    ·rw[if_neg hk1,if_pos hk];decide
  exact⟨none,[],0,rfl,z0y.none _,.inl ⟨this,rfl⟩,hb⟩
 ·have hk1:okK key=true:=by simpa using fun h=>hk (.inl h)
  have hv1:v.size≤2048:=by
   rcases zng 2048 v.size with h|h
   ·exact absurd (.inr h) hk
   ·exact h
  exact x83 p ts H key v w ht hl hk1 hv1
end Go.Proofs.YtdnfhjfbanhhcaaGreatDoor
