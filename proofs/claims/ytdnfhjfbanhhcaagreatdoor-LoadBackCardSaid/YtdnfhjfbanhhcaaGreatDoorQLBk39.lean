/-
  Steps.
-/
import Derived.Test.YtdnfhjfbanhhcaaGreatDoorQLBk38
namespace Go.Proofs.YtdnfhjfbanhhcaaGreatDoor
open Go Go.RowKit
theorem y9u {P:En→Prop}(hP:∀e ps,P e→P (layE e ps)):∀(cs:List En) (ps:List Nat),(∀e∈cs,P e)→∀e∈layC cs ps,P e
 | [],_,_,e,he=>by cases he
 | c::r,ps,h,e,he=>by
  rw[layC] at he
  rcases List.mem_cons.1 he with rfl|he
  ·exact hP _ _ (h c (by simp))
  ·exact y9u hP r _ (fun e he=>h e (by simp[he])) e he
theorem y5z (gl:Nat)(v:NoV)(w:World)(h0:v.pg≠0):Calls Tryz.prog 32 #[pt gl,v.v] w fun e w'=>e=.returned v.v∧Below w.heap.size w w':=by
 obtain⟨W,hW⟩:∃W,(w.alloc (.cells #[.int .i64 (v.pg:Nat),v.c,v.k,v.p] VT)).alloc (.cells #[.int .i64 0,nilS,nilS,nilS] VT)=W:=⟨_,rfl⟩
 have hb:Below w.heap.size w W:=by rw[←hW];exact((zbr _ _).alloc (zlr _) _).alloc (by simp) _
 have hV:VB4 W w.heap.size v:=by rw[←hW];exact(Below.heap_alloc _ _ _ (by simp)).trans (z0h w VT #[.int .i64 (v.pg:Nat),v.c,v.k,v.p])
 have hR:W.heap[w.heap.size+1]? =some (.cells #[.int .i64 0,nilS,nilS,nilS] VT (0,0)):=by
  rw[←hW];have:=z0h (w.alloc (.cells #[.int .i64 (v.pg:Nat),v.c,v.k,v.p] VT)) VT #[.int .i64 0,nilS,nilS,nilS]
  rwa [World.size_alloc] at this
 have Hc:=zh (z5b v W);rw[show(!decide (v.pg=0))=true by rw[zdf h0];rfl] at Hc;have q:=hV;have HW:=zh hW;have HB:=zh hb;have HV:=zh hV;have HR:=zh hR;clear hW hb hV hR h0 q;have k0:=HV.out.c0;have k1:=HV.out.c1;have k2:=HV.out.c2;have k3:=HV.out.c3;rw[←HW.out] at k0 k1 k2 k3;obtain⟨pg,ca,cn,cc,ka,kn,kc,pa,pn,pc⟩:=v;dsimp only[NoV.c,NoV.k,NoV.p,NoV.v] at*
 go_enter Tryz.func32,Tryz.ntmps32
 go_wp2_with fail;rw[HW.out];refine Hc.out.mono ?_;rintro e w1 ⟨rfl,hb1⟩;have hv1:=HV.out.ext hb1;have hr1:=(hb1.block _ (zag.1 HR.out).1).trans HR.out;have q0:=hv1.c0;have q1:=hv1.c1;have q2:=hv1.c2;have q3:=hv1.c3;have cc0:w1.cell? ⟨w.heap.size+1,0,none⟩=some (.int .i64 0):=by simp[World.cell?,hr1]
 have cc1:w1.cell? ⟨w.heap.size+1,1,none⟩=some nilS:=by simp[World.cell?,hr1]
 have cc2:w1.cell? ⟨w.heap.size+1,2,none⟩=some nilS:=by simp[World.cell?,hr1]
 have cc3:w1.cell? ⟨w.heap.size+1,3,none⟩=some nilS:=by simp[World.cell?,hr1]
 have f0:∀i,w1.frozen? ⟨w.heap.size+1,i,none⟩=false:=fun i=>by simp[World.frozen?,hr1]
 have F0:=f0 0;have F1:=f0 1;have F2:=f0 2;have F3:=f0 3;have HB1:=zh (HB.out.trans (hb1.mono HB.out.size));have HR1:=zh hr1;clear hb1 hv1 hr1 f0 k0 k1 k2 k3 Hc;go_wp2_with fail;have Hp:=zh (z13 (x0:=.int .i64 (pg:Nat)) (x1:=.slice ca cn cc) (x2:=.slice ka kn kc) (x3:=.slice pa pn pc) HR1.out);have k0:(put4 w1 (w.heap.size+1) (.int .i64 (pg:Nat)) (.slice ca cn cc) (.slice ka kn kc) (.slice pa pn pc)).cell? ⟨w.heap.size+1,0,none⟩=some (.int .i64 (pg:Nat)):=by simp[World.cell?,Hp.out]
 have k1:(put4 w1 (w.heap.size+1) (.int .i64 (pg:Nat)) (.slice ca cn cc) (.slice ka kn kc) (.slice pa pn pc)).cell? ⟨w.heap.size+1,1,none⟩=some (.slice ca cn cc):=by simp[World.cell?,Hp.out]
 have k2:(put4 w1 (w.heap.size+1) (.int .i64 (pg:Nat)) (.slice ca cn cc) (.slice ka kn kc) (.slice pa pn pc)).cell? ⟨w.heap.size+1,2,none⟩=some (.slice ka kn kc):=by simp[World.cell?,Hp.out]
 have k3:(put4 w1 (w.heap.size+1) (.int .i64 (pg:Nat)) (.slice ca cn cc) (.slice ka kn kc) (.slice pa pn pc)).cell? ⟨w.heap.size+1,3,none⟩=some (.slice pa pn pc):=by simp[World.cell?,Hp.out]
 have hend:=zh (z30 (x0:=.int .i64 (pg:Nat)) (x1:=.slice ca cn cc) (x2:=.slice ka kn kc) (x3:=.slice pa pn pc) HB1.out (show w.heap.size≤w.heap.size+1 by omega));unfold put4 at k0 k1 k2 k3 hend;exact bodyPost_ret (v:=.agg #[.int .i64 (pg:Nat),.slice ca cn cc,.slice ka kn kc,.slice pa pn pc]) (by rw[z0c rfl];go_simp) rfl ⟨rfl,hend.out⟩
theorem y50 (gl B:Nat)(v:NoV)(cs:List En)(ps:List Nat)(ws:List PgW)(w:World)(h0:v.pg=0)(hpn:v.pn=0)(hI:LyI w gl B ps ws)(hcl:CV w v.c cs)(hcs:srt cs)(hok:∀e∈cs,okE e)(hcv:∀e∈cs,CeV e)
  (hchl:∀e∈cs,e.ch.length≤100000) (hsz:z0s cs≤504) (hnd:cNs cs+1≤ps.length) (hpb:∀x∈ps,2≤x∧x<1024) (hwl:ws.length+cNs cs≤50000):
  Calls Tryz.prog 32 #[pt gl,v.v] w fun e w'=>∃x:NoV,e=.returned x.v∧x.pg=na ps (cNs cs)∧OCk w' w.heap.size x.c (layC cs ps) (layC cs ps).length∧x.k=nilS∧x.p=nilS∧
   LyI w' gl B (ps.drop (cNs cs+1)) (ws++(wrC cs ps++[(na ps (cNs cs),z1l 1 (z10 ((layC cs ps).map cE)))]))∧Turn (LF w gl B) w w':=by
 have hl9:cs.length≤100000:=by
  have:=z1i (fun x hx=>hok x hx);unfold z0s at hsz;omega
 obtain⟨W,hW⟩:∃W,(w.alloc (.cells #[.int .i64 (v.pg:Nat),v.c,v.k,v.p] VT)).alloc (.cells #[.int .i64 0,nilS,nilS,nilS] VT)=W:=⟨_,rfl⟩
 have hb:Below w.heap.size w W:=by rw[←hW];exact((zbr _ _).alloc (zlr _) _).alloc (by simp) _
 have hV:VB4 W w.heap.size v:=by rw[←hW];exact(Below.heap_alloc _ _ _ (by simp)).trans (z0h w VT #[.int .i64 (v.pg:Nat),v.c,v.k,v.p])
 have hR:W.heap[w.heap.size+1]? =some (.cells #[.int .i64 0,nilS,nilS,nilS] VT (0,0)):=by
  rw[←hW];have:=z0h (w.alloc (.cells #[.int .i64 (v.pg:Nat),v.c,v.k,v.p] VT)) VT #[.int .i64 0,nilS,nilS,nilS]
  rwa [World.size_alloc] at this
 have Hlf:=zh (fun w'=>y5o v w');rw[show decide (v.pn=0)=true from zdt hpn] at Hlf;have Hld:=zh (fun(w1:World) (hx:Below w.heap.size w w1)=>z9x v cs w1 (hcl.below hx (zlr _)) hl9 hchl);have HC:=zh (zai hcs (zai hok (zai hcv (zai hchl (zai hsz (zai hnd (zai hpb hwl)))))));have HI:=zh (zai hI hI.bz);have Hc:=zh (z5b v W);rw[show(!decide (v.pg=0))=false by rw[zdt h0];rfl] at Hc;have q:=hV;have HW:=zh hW;have HB:=zh hb;have HV:=zh hV;have HR:=zh hR;clear hW hb hV hR h0 q hpn hI hcl hcs hok hcv hchl hsz hnd hpb hwl hl9;have k0:=HV.out.c0;have k1:=HV.out.c1;have k2:=HV.out.c2;have k3:=HV.out.c3;rw[←HW.out] at k0 k1 k2 k3;obtain⟨pg,ca,cn,cc,ka,kn,kc,pa,pn,pc⟩:=v;dsimp only[NoV.c,NoV.k,NoV.p,NoV.v] at*
 go_enter Tryz.func32,Tryz.ntmps32
 go_wp2_with fail;rw[HW.out];refine Hc.out.mono ?_;rintro e w1 ⟨rfl,hb1⟩;have hv1:=HV.out.ext hb1;have hr1:=(hb1.block _ (zag.1 HR.out).1).trans HR.out;have q0:=hv1.c0;have q1:=hv1.c1;have q2:=hv1.c2;have q3:=hv1.c3;have HB1:=zh (HB.out.trans (hb1.mono HB.out.size));have HR1:=zh hr1;have HV1:=zh hv1;clear hb1 hv1 hr1 k0 k1 k2 k3 Hc;go_wp2_with fail;refine(Hlf.out w1).mono ?_;rintro e w2 ⟨rfl,hb2⟩;have hv2:=HV1.out.ext hb2;have hr2:=(hb2.block _ (zag.1 HR1.out).1).trans HR1.out;have s0:=hv2.c0;have s1:=hv2.c1;have s2:=hv2.c2;have s3:=hv2.c3;have HB2:=zh (HB1.out.trans (hb2.mono HB1.out.size));have HR2:=zh hr2;clear hb2 hv2 hr2 q0 q1 q2 q3;go_wp2_with fail;refine(Hld.out w2 HB2.out).mono ?_;rintro e w3 ⟨u,rfl,hoc,hb3⟩;have hI3:=HI.out.1.ext ((HB2.out.trans (hb3.mono HB2.out.size)));have hz2:w.heap.size≤w2.heap.size:=HB2.out.size;have hLf:=zh (y7q gl B w2.heap.size u cs ps ws w3 hI3 hoc (znt HI.out.2 hz2) HC.out.1 HC.out.2.1 HC.out.2.2.1 HC.out.2.2.2.1 HC.out.2.2.2.2.1 HC.out.2.2.2.2.2.1 HC.out.2.2.2.2.2.2.1 HC.out.2.2.2.2.2.2.2);have HB3:=zh (HB2.out.trans (hb3.mono HB2.out.size));have HR3:=zh ((hb3.block _ (zag.1 HR2.out).1).trans HR2.out);have Hub:Hid (∀b,u.ownBlock=some b→w.heap.size≤b∧b≠w.heap.size+1):=fun b hb=>by
  obtain⟨xs,ho,_⟩:=hoc;have h1:=(ho.lt b hb).1;have h2:=(zag.1 HR2.out).1;omega
 obtain⟨ua,uc,rfl⟩:=hoc.form;have HI3:=zh hI3;clear hoc hb3 hI3 s0 s1 s2 s3;obtain⟨n,hn⟩:∃n,cs.length=n:=⟨_,rfl⟩
 rw[hn] at hLf Hub⊢
 clear hn;go_wp2_with fail;refine hLf.out.mono ?_;rintro e w4 ⟨x,rfl,hxp,hxc,hxk,hxv,hly,ht⟩;have hr4:w4.heap[w.heap.size+1]? =some (.cells #[.int .i64 0,nilS,nilS,nilS] VT (0,0)):=ht.hg HR3.out (fun hf=>by
  rcases hf with hf|hf
  ·exact HI3.out.not HR3.out (by decide) (by decide) hf
  ·exact(Hub.out _ hf).2 rfl)
 have cc0:w4.cell? ⟨w.heap.size+1,0,none⟩=some (.int .i64 0):=by simp[World.cell?,hr4]
 have cc1:w4.cell? ⟨w.heap.size+1,1,none⟩=some nilS:=by simp[World.cell?,hr4]
 have cc2:w4.cell? ⟨w.heap.size+1,2,none⟩=some nilS:=by simp[World.cell?,hr4]
 have cc3:w4.cell? ⟨w.heap.size+1,3,none⟩=some nilS:=by simp[World.cell?,hr4]
 have f0:∀i,w4.frozen? ⟨w.heap.size+1,i,none⟩=false:=fun i=>by simp[World.frozen?,hr4]
 have F0:=f0 0;have F1:=f0 1;have F2:=f0 2;have F3:=f0 3;have HR4:=zh hr4;have HX:=zh (zai hxp (zai hxc (zai hxk (zai hxv (zai hly ht)))));clear hr4 f0 hxp hxc hxk hxv hly ht hLf;obtain⟨xg,xa',xn,xc,ya,yn,yc,za,zn,zc⟩:=x;dsimp only[NoV.c,NoV.k,NoV.p,NoV.v] at*;go_wp2_with fail;have Hp:=zh (z13 (x0:=.int .i64 (xg:Nat)) (x1:=.slice xa' xn xc) (x2:=.slice ya yn yc) (x3:=.slice za zn zc) HR4.out);have k0:(put4 w4 (w.heap.size+1) (.int .i64 (xg:Nat)) (.slice xa' xn xc) (.slice ya yn yc) (.slice za zn zc)).cell? ⟨w.heap.size+1,0,none⟩=some (.int .i64 (xg:Nat)):=by simp[World.cell?,Hp.out]
 have k1:(put4 w4 (w.heap.size+1) (.int .i64 (xg:Nat)) (.slice xa' xn xc) (.slice ya yn yc) (.slice za zn zc)).cell? ⟨w.heap.size+1,1,none⟩=some (.slice xa' xn xc):=by simp[World.cell?,Hp.out]
 have k2:(put4 w4 (w.heap.size+1) (.int .i64 (xg:Nat)) (.slice xa' xn xc) (.slice ya yn yc) (.slice za zn zc)).cell? ⟨w.heap.size+1,2,none⟩=some (.slice ya yn yc):=by simp[World.cell?,Hp.out]
 have k3:(put4 w4 (w.heap.size+1) (.int .i64 (xg:Nat)) (.slice xa' xn xc) (.slice ya yn yc) (.slice za zn zc)).cell? ⟨w.heap.size+1,3,none⟩=some (.slice za zn zc):=by simp[World.cell?,Hp.out]
 have tp:=z1r (w:=w4) (g:=w.heap.size+1) (x0:=.int .i64 (xg:Nat)) (x1:=.slice xa' xn xc) (x2:=.slice ya yn yc) (x3:=.slice za zn zc);obtain⟨h1,h2,h3,h4,h5,h6⟩:=HX.out;have hz3:w.heap.size≤w3.heap.size:=HB3.out.size;have hend:Hid (OCk (put4 w4 (w.heap.size+1) (.int .i64 (xg:Nat)) (.slice xa' xn xc) (.slice ya yn yc) (.slice za zn zc)) w.heap.size (.slice xa' xn xc) (layC cs ps) (layC cs ps).length∧
   LyI (put4 w4 (w.heap.size+1) (.int .i64 (xg:Nat)) (.slice xa' xn xc) (.slice ya yn yc) (.slice za zn zc)) gl B (ps.drop (cNs cs+1)) (ws++(wrC cs ps++[(na ps (cNs cs),z1l 1 (z10 ((layC cs ps).map cE)))]))∧
   Turn (LF w gl B) w (put4 w4 (w.heap.size+1) (.int .i64 (xg:Nat)) (.slice xa' xn xc) (.slice ya yn yc) (.slice za zn zc))):=by
  refine⟨(OCk.lower h2 hz3).tur tp (TyF.one HR4.out) rfl (by decide),h5.tz tp (fun i hi=> ?_),?_⟩
  ·obtain rfl:i=w.heap.size+1:=hi;exact⟨by have:=HI.out.2;omega,_,_,_,HR4.out,by decide,by decide⟩
  ·have t3:Turn (LF w gl B) w w3:=q5w HB3.out;have t4:Turn (LF w gl B) w w4:=t3.step h6 (fun i hi hl=>by
    rcases hi with hi|hi
    ·rcases hi with rfl|⟨hB,A,fz,h7⟩
     ·exact .inl rfl
     ·exact .inr ⟨hB,A,fz,(HB3.out.block i hl).symm.trans h7⟩
    ·have:=(Hub.out i hi).1;omega)
   exact t4.step tp (fun i hi hl=>by
    obtain rfl:i=w.heap.size+1:=hi;omega)
 unfold put4 at k0 k1 k2 k3 hend;exact bodyPost_ret (v:=.agg #[.int .i64 (xg:Nat),.slice xa' xn xc,.slice ya yn yc,.slice za zn zc]) (by rw[z0c rfl];go_simp) rfl ⟨⟨xg,xa',xn,xc,ya,yn,yc,za,zn,zc⟩,rfl,h1,hend.out.1,h3,h4,hend.out.2.1,hend.out.2.2⟩
set_option maxHeartbeats 400000 in
theorem y0e (gl B h:Nat)(lo hi:SB)(v:NoV)(ks:List ByteArray)(qs:List Nat)(vs:List NoV)(ts:List Tr)(ps:List Nat)(ws:List PgW)(w:World)(h0:v.pg=0)(hpn:v.pn≠0)(hI:LyI w gl B ps ws)(hk:EV strE w v.k ks)(hp:EV ptrE w v.p qs)
  (hvs:vs.length=qs.length) (hnp:∀i,i<qs.length→NPv w (na qs i) (va vs i)) (hvl:vs.length=ks.length+1) (htl:ts.length=ks.length+1) (hold:∀i,i<vs.length→OldT w B h (lob lo ks i) (hib hi ks i) (va vs i) (ta ts i))
  (hmay:mayF ks ((layL ts ps).map pgI)) (hsz:brSz ks≤504) (hok:∀k∈ks,okK k=true) (hgs:∀t∈ts,126≤t.sz∧t.sz≤504) (hnd:z0f ts+1≤ps.length) (hwl:ws.length+z0f ts≤50000)
  (ih:∀i W,i<vs.length→LyI W gl B (ps.drop (z0f (ts.take i))) (ws++wrL (ts.take i) ps)→OldT W B h (lob lo ks i) (hib hi ks i) (va vs i) (ta ts i)→
   Calls Tryz.prog 32 #[pt gl,(va vs i).v] W fun e W'=>∃x:NoV,e=.returned x.v∧NdS W' (fun b=>B≤b∧b<W.heap.size) h (lob lo ks i) (hib hi ks i) x (layT (ta ts i) (ps.drop (z0f (ts.take i))))∧
    LyI W' gl B ((ps.drop (z0f (ts.take i))).drop (ta ts i).need) ((ws++wrL (ts.take i) ps)++wrT (ta ts i) (ps.drop (z0f (ts.take i))))∧Turn (LF W gl B) W W'):
  Calls Tryz.prog 32 #[pt gl,v.v] w fun e w'=>∃x:NoV,e=.returned x.v∧NdS w' (fun b=>B≤b∧b<w.heap.size) (h+1) lo hi x (.bran (na ps (z0f ts)) ks (layL ts ps))∧
   LyI w' gl B (ps.drop (z0f ts+1)) (ws++(wrL ts ps++[(na ps (z0f ts),z1l 2 (z2n ks ((layL ts ps).map pgI)))]))∧Turn (LF w gl B) w w':=by
 have hl9:ks.length≤600:=by
  have:=z0u hok;unfold brSz at hsz;omega
 obtain⟨W,hW⟩:∃W,(w.alloc (.cells #[.int .i64 (v.pg:Nat),v.c,v.k,v.p] VT)).alloc (.cells #[.int .i64 0,nilS,nilS,nilS] VT)=W:=⟨_,rfl⟩
 have hb:Below w.heap.size w W:=by rw[←hW];exact((zbr _ _).alloc (zlr _) _).alloc (by simp) _
 have hV:VB4 W w.heap.size v:=by rw[←hW];exact(Below.heap_alloc _ _ _ (by simp)).trans (z0h w VT #[.int .i64 (v.pg:Nat),v.c,v.k,v.p])
 have hR:W.heap[w.heap.size+1]? =some (.cells #[.int .i64 0,nilS,nilS,nilS] VT (0,0)):=by
  rw[←hW];have:=z0h (w.alloc (.cells #[.int .i64 (v.pg:Nat),v.c,v.k,v.p] VT)) VT #[.int .i64 0,nilS,nilS,nilS]
  rwa [World.size_alloc] at this
 have Hlf:=zh (fun w'=>y5o v w');rw[show decide (v.pn=0)=false from zdf hpn] at Hlf;have Hkd:=zh (fun(w1:World) (hx:Below w.heap.size w w1)=>z9y v qs vs w1 (hp.below hx (zlr _)) hvs (fun i hi=>NP.ext (hnp i hi) hx) (by rw[hvs] at hvl;omega));have Hky:=zh (fun(w1:World) (hx:Below w.heap.size w w1)=>x5g v ks w1 (hk.below hx (zlr _)) (by omega));have HC:=zh (zai hvl (zai htl (zai hold (zai hmay (zai hsz (zai hok (zai hgs (zai hnd hwl))))))));have HI:=zh (zai hI hI.bz);have Hih:=zh ih;have Hc:=zh (z5b v W);rw[show(!decide (v.pg=0))=false by rw[zdt h0];rfl] at Hc;have q:=hV;have HW:=zh hW;have HB:=zh hb;have HV:=zh hV;have HR:=zh hR;clear hW hb hV hR h0 q hpn hI hk hp hvs hnp hvl htl hold hmay hsz hok hgs hnd hwl ih hl9;have k0:=HV.out.c0;have k1:=HV.out.c1;have k2:=HV.out.c2;have k3:=HV.out.c3;rw[←HW.out] at k0 k1 k2 k3;obtain⟨v0,hv0⟩:∃v0,v0=v:=⟨_,rfl⟩
 have HVn:Hid (VB4 W w.heap.size v0):=by rw[hv0];exact HV.out
 obtain⟨pg,ca,cn,cc,ka,kn,kc,pa,pn,pc⟩:=v;dsimp only[NoV.c,NoV.k,NoV.p,NoV.v] at*
 go_enter Tryz.func32,Tryz.ntmps32
 go_wp2_with fail;rw[HW.out];refine Hc.out.mono ?_;rintro e w1 ⟨rfl,hb1⟩;have hv1:=HV.out.ext hb1;have hr1:=(hb1.block _ (zag.1 HR.out).1).trans HR.out;have q0:=hv1.c0;have q1:=hv1.c1;have q2:=hv1.c2;have q3:=hv1.c3;have HB1:=zh (HB.out.trans (hb1.mono HB.out.size));have HR1:=zh hr1;have HV1:=zh hv1;clear hb1 hv1 hr1 k0 k1 k2 k3 Hc;go_wp2_with fail;refine(Hlf.out w1).mono ?_;rintro e w2 ⟨rfl,hb2⟩;have hv2:=HV1.out.ext hb2;have hr2:=(hb2.block _ (zag.1 HR1.out).1).trans HR1.out;have s0:=hv2.c0;have s1:=hv2.c1;have s2:=hv2.c2;have s3:=hv2.c3;have hv2':Hid (VB4 w2 w.heap.size v0):=by rw[hv0];exact hv2
 have HB2:=zh (HB1.out.trans (hb2.mono HB1.out.size));have HR2:=zh hr2;clear hb2 hv2 hr2 q0 q1 q2 q3;go_wp2_with fail;obtain⟨W4,hW4⟩:∃W,w2.drew=W:=⟨_,rfl⟩
 have hd:Below w2.heap.size w2 W4:=by rw[←hW4];exact(zbr _ _).drew
 have HW4:=zh hW4;have HB4:=zh (HB2.out.trans (hd.mono HB2.out.size));have hI4:=HI.out.1.ext HB4.out;have hR4:=(hd.block _ (zag.1 HR2.out).1).trans HR2.out;have hV4:VB4 W4 w.heap.size v0:=hv2'.out.ext hd;have HI4:=zh hI4;have HR4:=zh hR4;have q:∀w',Turn (fun i=>i=w.heap.size+1∨LF W4 gl B i∨W4.heap.size≤i) W4 w'→VB4 w' w.heap.size v0:=fun w' t=>t.hg hV4 (fun hf=>by
  rcases hf with hf|hf|hf
  ·have:w.heap.size=w.heap.size+1:=hf;omega
  ·exact HI4.out.not hV4 (by decide) (by decide) hf
  ·have:=(zag.1 hV4).1;omega)
 have q0:=fun w' t=>(q w' t).c0
 have q1:=fun w' t=>(q w' t).c1
 have q2:=fun w' t=>(q w' t).c2
 have q3:=fun w' t=>(q w' t).c3
 rw[hv0] at q0 q1 q2 q3;clear hd hI4 hR4 hV4 q hW4 s0 s1 s2 s3;dsimp only[NoV.c,NoV.k,NoV.p,NoV.v] at q0 q1 q2 q3;refine z0l (F:=fun i=>i=w.heap.size+1∨LF W4 gl B i∨W4.heap.size≤i) (.rd 0 (.rd 1 (.rd 3 (.call 2 (.call 4 (.call 5 (.call 6 .done))))))) (by kernel_rfl) (by kernel_rfl) (by kernel_rfl) (by kernel_rfl) (fun _ _ _ _ _ h=>h) ?_;rw[HW4.out]
 (refine gsr (v:= ?_) rfl (by rfl) ?_ ?_;rotate_left;(intro w' hw';go_simp;with_reducible rfl);simp only[Act.put,zs0,zs1,zs2])
 (refine gsr (v:= ?_) rfl (by rfl) ?_ ?_;rotate_left;(intro w' hw';go_simp;with_reducible rfl);simp only[Act.put,zs0,zs1,zs2])
 (refine gsr (v:= ?_) rfl (by rfl) ?_ ?_;rotate_left;(intro w' hw';go_simp;with_reducible rfl);simp only[Act.put,zs0,zs1,zs2])
 clear q0 q1 q2 q3;refine gsc rfl (by rfl) (fun K hK=> ?_);go_simp;refine(Hky.out W4 HB4.out).mono ?_;rintro e w5 ⟨vk,rfl,hvk,hb5⟩;refine hK _ _ (q5w hb5) ?_;clear hK K;have HB5:=zh (HB4.out.trans (hb5.mono HB4.out.size));have H45:=zh hb5;have Hvk:=zh hvk;clear hb5 hvk;refine gsc rfl (by rfl) (fun K hK=> ?_);go_simp;refine(Hkd.out w5 HB5.out).mono ?_;rintro e w6 ⟨u,rfl,hon,hb6⟩;refine hK _ _ (q5w hb6) ?_;clear hK K;have HB6:=zh (HB5.out.trans (hb6.mono HB5.out.size));have H46:=zh (H45.out.trans (hb6.mono H45.out.size));have hz5:w.heap.size≤w5.heap.size:=HB5.out.size;have hBr:=zh (y28 gl B w5.heap.size h lo hi vk u ks vs ts ps ws w6 (HI.out.1.ext HB6.out) (Hvk.out.below hb6 (zlr _)) hon (znt HI.out.2 hz5) HC.out.1 HC.out.2.1 (fun i hi=>(HC.out.2.2.1 i hi).ext HB6.out) HC.out.2.2.2.1 HC.out.2.2.2.2.1 HC.out.2.2.2.2.2.1 HC.out.2.2.2.2.2.2.1 HC.out.2.2.2.2.2.2.2.1 HC.out.2.2.2.2.2.2.2.2 Hih.out);have Hub:Hid (∀b,u.ownBlock=some b→w5.heap.size≤b):=fun b hb=>(hon.lt b hb).1
 have hw45:=H45.out.size;have hw46:=H46.out.size;clear hon hb6;refine gsc rfl (by rfl) (fun K hK=> ?_);go_simp;refine hBr.out.mono ?_;rintro e w7 ⟨x,rfl,hxs,hly,ht⟩;have ht4:Turn (fun i=>i=w.heap.size+1∨LF W4 gl B i∨W4.heap.size≤i) w6 w7:=ht.mono (fun i hi hl=>by
  by_cases h9:W4.heap.size≤i
  ·exact .inr (.inr h9)
  ·rcases hi with hi|hi
   ·rcases hi with rfl|⟨hB,A,fz,h7⟩
    ·exact .inr (.inl (.inl rfl))
    ·exact .inr (.inl (.inr ⟨hB,A,fz,(H46.out.block i (by omega)).symm.trans h7⟩))
   ·have:=Hub.out i hi;omega)
 refine hK _ _ ht4 ?_;clear hK K;have hl4:w.heap.size+1<W4.heap.size:=(zag.1 HR4.out).1;have hr6:=(H46.out.block _ hl4).trans HR4.out;have hr7:w7.heap[w.heap.size+1]? =some (.cells #[.int .i64 0,nilS,nilS,nilS] VT (0,0)):=ht.hg hr6 (fun hf=>by
  rcases hf with hf|hf
  ·exact(HI.out.1.ext HB6.out).not hr6 (by decide) (by decide) hf
  ·have:=Hub.out _ hf;omega)
 have cc0:w7.cell? ⟨w.heap.size+1,0,none⟩=some (.int .i64 0):=by simp[World.cell?,hr7]
 have cc1:w7.cell? ⟨w.heap.size+1,1,none⟩=some nilS:=by simp[World.cell?,hr7]
 have cc2:w7.cell? ⟨w.heap.size+1,2,none⟩=some nilS:=by simp[World.cell?,hr7]
 have cc3:w7.cell? ⟨w.heap.size+1,3,none⟩=some nilS:=by simp[World.cell?,hr7]
 have f0:∀i,w7.frozen? ⟨w.heap.size+1,i,none⟩=false:=fun i=>by simp[World.frozen?,hr7]
 have F0:=f0 0;have F1:=f0 1;have F2:=f0 2;have F3:=f0 3;have HR7:=zh hr7;have HX:=zh (zai hxs (zai hly ht));clear hr6 hr7 f0 hxs hly ht ht4;obtain⟨xg,xa',xn,xc,ya,yn,yc,za,zn,zc⟩:=x;dsimp only[NoV.c,NoV.k,NoV.p,NoV.v] at*;have Hp:=zh (z13 (x0:=.int .i64 (xg:Nat)) (x1:=.slice xa' xn xc) (x2:=.slice ya yn yc) (x3:=.slice za zn zc) HR7.out);have k0:(put4 w7 (w.heap.size+1) (.int .i64 (xg:Nat)) (.slice xa' xn xc) (.slice ya yn yc) (.slice za zn zc)).cell? ⟨w.heap.size+1,0,none⟩=some (.int .i64 (xg:Nat)):=by simp[World.cell?,Hp.out]
 have k1:(put4 w7 (w.heap.size+1) (.int .i64 (xg:Nat)) (.slice xa' xn xc) (.slice ya yn yc) (.slice za zn zc)).cell? ⟨w.heap.size+1,1,none⟩=some (.slice xa' xn xc):=by simp[World.cell?,Hp.out]
 have k2:(put4 w7 (w.heap.size+1) (.int .i64 (xg:Nat)) (.slice xa' xn xc) (.slice ya yn yc) (.slice za zn zc)).cell? ⟨w.heap.size+1,2,none⟩=some (.slice ya yn yc):=by simp[World.cell?,Hp.out]
 have k3:(put4 w7 (w.heap.size+1) (.int .i64 (xg:Nat)) (.slice xa' xn xc) (.slice ya yn yc) (.slice za zn zc)).cell? ⟨w.heap.size+1,3,none⟩=some (.slice za zn zc):=by simp[World.cell?,Hp.out]
 have tp:=z1r (w:=w7) (g:=w.heap.size+1) (x0:=.int .i64 (xg:Nat)) (x1:=.slice xa' xn xc) (x2:=.slice ya yn yc) (x3:=.slice za zn zc);have htF:Turn (fun i=>i=w.heap.size+1∨LF W4 gl B i∨W4.heap.size≤i) w7 (put4 w7 (w.heap.size+1) (.int .i64 (xg:Nat)) (.slice xa' xn xc) (.slice ya yn yc) (.slice za zn zc)):=tp.mono (fun i hi _=> .inl hi);obtain⟨h1,h2,h3⟩:=HX.out;have hlW6:w.heap.size+1<w6.heap.size:=by omega
 have hend:Hid (NdS (put4 w7 (w.heap.size+1) (.int .i64 (xg:Nat)) (.slice xa' xn xc) (.slice ya yn yc) (.slice za zn zc)) (fun b=>B≤b∧b<w.heap.size) (h+1) lo hi ⟨xg,xa',xn,xc,ya,yn,yc,za,zn,zc⟩ (.bran (na ps (z0f ts)) ks (layL ts ps))∧
   LyI (put4 w7 (w.heap.size+1) (.int .i64 (xg:Nat)) (.slice xa' xn xc) (.slice ya yn yc) (.slice za zn zc)) gl B (ps.drop (z0f ts+1)) (ws++(wrL ts ps++[(na ps (z0f ts),z1l 2 (z2n ks ((layL ts ps).map pgI)))]))∧
   Turn (LF w gl B) w (put4 w7 (w.heap.size+1) (.int .i64 (xg:Nat)) (.slice xa' xn xc) (.slice ya yn yc) (.slice za zn zc))):=by
  have hBw:=HI.out.2;refine⟨h1.step tp (fun i hi hl=> ?_) (fun i hi _=>⟨hi.1,by have:=hi.2;omega⟩),h2.tz tp (fun i hi=> ?_),?_⟩
  ·obtain rfl:i=w.heap.size+1:=hi;exact⟨_,_,_,HR7.out,.inr ⟨.inr rfl,by omega,hlW6⟩⟩
  ·obtain rfl:i=w.heap.size+1:=hi;exact⟨by omega,_,_,_,HR7.out,by decide,by decide⟩
  ·have t3:Turn (LF w gl B) w w6:=q5w HB6.out;have t4:Turn (LF w gl B) w w7:=t3.step h3 (fun i hi hl=>by
    rcases hi with hi|hi
    ·rcases hi with rfl|⟨hB,A,fz,h7⟩
     ·exact .inl rfl
     ·exact .inr ⟨hB,A,fz,(HB6.out.block i hl).symm.trans h7⟩
    ·have:=Hub.out i hi;omega)
   exact t4.step tp (fun i hi hl=>by
    obtain rfl:i=w.heap.size+1:=hi;omega)
 unfold put4 at k0 k1 k2 k3 hend htF;have HtF:=zh htF;clear htF tp h1 h2 h3;refine gsc rfl (by rfl) (fun K hK=> ?_);go_simp;refine hK _ _ HtF.out ?_;clear hK K cc0 cc1 cc2 cc3 F0 F1 F2 F3;refine z0a ?_;go_wp2_with fail;exact bodyPost_ret (v:=.agg #[.int .i64 (xg:Nat),.slice xa' xn xc,.slice ya yn yc,.slice za zn zc]) (by rw[z0c rfl];go_simp) rfl ⟨⟨xg,xa',xn,xc,ya,yn,yc,za,zn,zc⟩,rfl,hend.out.1,hend.out.2.1,hend.out.2.2⟩
theorem q3h {ks:List ByteArray}{tl:List Tr}(hkf:z3j ks)(hk1:1≤ks.length)(hl:tl.length=ks.length+1)(hp:∀t∈tl,t.pg≠0)(hone:∀p,cUL p tl≤1)(hrg:∀p,0<cUL p tl→2≤p∧p<1024):mayF ks (tl.map pgI):=by
 have hpm:∀i,i<tl.length→tl.getD i (.leaf 0 [])∈tl:=fun i hi=>by
  rw[List.getD_eq_getElem?_getD,List.getElem?_eq_getElem hi];exact List.getElem_mem _
 refine⟨hkf,fun i hi=> ?_,hk1,by rw[List.length_map];exact hl⟩;rw[List.length_map] at hi;rw[y7f tl i hi];have h0:=hp _ (hpm i hi);have h1:=hrg (tl.getD i (.leaf 0 [])).pg (by
  have:=y9b tl i hi h0;unfold cUL;omega)
 refine⟨by omega,fun j hj he=> ?_⟩;rw[y7f tl i hi,y7f tl j (by omega)] at he;have h2:=x5a tl j i hj hi (by omega) h0;have h3:=hone (tl.getD i (.leaf 0 [])).pg;unfold cUL at h3;omega
theorem z97 (gl B:Nat):∀(h:Nat) {lo hi:SB} (v:NoV) (t:Tr) (ps:List Nat) (ws:List PgW) (w:World),LyI w gl B ps ws→OldT w B h lo hi v t→t.sz≤504→(0<h→3≤t.sz)→(∀e∈t.es,CeV e∧e.ch.length≤100000)→t.need≤ps.length→
  (∀x∈ps,2≤x∧x<1024)→(∀p,cU p (layT t ps)≤1)→(∀p,0<cU p (layT t ps)→2≤p∧p<1024)→ws.length+t.need≤50000→
  Calls Tryz.prog 32 #[pt gl,v.v] w fun e w'=>∃x:NoV,e=.returned x.v∧NdS w' (fun b=>B≤b∧b<w.heap.size) h lo hi x (layT t ps)∧LyI w' gl B (ps.drop t.need) (ws++wrT t ps)∧Turn (LF w gl B) w w'
 | h,lo,hi,v,t,ps,ws,w,hI,ho,hz,hz3,hce,hnd,hpb,hone,hrg,hwl=>by
  have hnv:=ho.s.now;have hpg:=hnv.pg
  by_cases h0:v.pg=0
  ·cases h with
   | zero=>
    obtain⟨cs,rfl,h1,h2,h3,h4,h5,h6⟩:=hnv;simp only[Tr.sz] at hz;rw[Tr.es] at hce;rw[Tr.need,if_pos h0] at hnd hwl;have hpn:v.pn=0:=by injection h2
    refine(y50 gl B v cs ps ws w h0 hpn hI h3 h5 (fun e he=>(h6 e he).1) (fun e he=>(hce e he).1) (fun e he=>(hce e he).2) hz hnd hpb (by omega)).mono ?_;rintro e w' ⟨x,rfl,g1,g2,g3,g4,g5,g6⟩;rw[layT,wrT,Tr.need,if_pos h0,if_pos h0,if_pos h0];refine⟨x,rfl,?_,g5,g6⟩;have hst:=OCk.stay (w:=w) g2 g3 g4 h4 (y9s h5) (y9u (P:=fun e=>okE e∧ins lo hi e.k) (fun e qs h=>by
     have h7:=y7n e qs;have h8:=h.1;have h9:=h.2;unfold okE at*;rw[h7.1,h7.2];exact⟨h8,h9⟩) cs ps h6)
    rw[g1] at hst;exact hst.step (Turn.refl (fun _=>False) _) (fun _ hf _=>hf.elim) (fun b hb _=>hb.2)
   | succ h=>
    obtain⟨ks,qs,ts,vs,rfl,g1,g2,g3,g4,g5,g6,g7,g8,g9,g10⟩:=ho.kids;simp only[Tr.sz] at hz hz3;have hz3:=hz3 (by omega);rw[Tr.es] at hce;rw[Tr.need,if_pos h0] at hnd hwl;rw[layT,if_pos h0] at hone hrg;have hk1:1≤ks.length:=by
     cases ks with
     | nil=>unfold brSz kss at hz3;simp at hz3
     | cons x r=>simp
    have hpn:v.pn≠0:=by
     obtain⟨_,_,h1,_⟩:=g3;injection h1 with _ h1 _
     omega
    have hzp:∀x∈ps,x≠0:=fun x hx=>by have:=hpb x hx;omega
    have hone2:∀p,cUL p (layL ts ps)≤1:=fun p=>by
     have:=hone p;rw[z7i] at this;omega
    have hrg2:∀p,0<cUL p (layL ts ps)→2≤p∧p<1024:=fun p hp=>hrg p (by rw[z7i];omega)
    have hdl:∀i,i<ts.length→(ta ts i).need≤(ps.drop (z0f (ts.take i))).length:=fun i hi=>by
     have h1:=z7r ts i hi;have h2:=z61 ts (i+1);rw[zld];omega
    have hpz:∀t∈layL ts ps,t.pg≠0:=fun t ht=>by
     obtain⟨i,hi,rfl⟩:=List.getElem_of_mem ht;have hi2:i<ts.length:=by rw[z2y] at hi;exact hi
     have e2:(layL ts ps)[i]=ta (layL ts ps) i:=by unfold ta;simp[List.getD,hi]
     rw[e2,y1g ts ps i hi2];exact q3g _ _ (hdl i hi2) (fun x hx=>hzp x (List.mem_of_mem_drop hx))
    have hmay:=q3h g7 hk1 (tl:=layL ts ps) (by rw[z2y];exact g6) hpz hone2 hrg2;refine(y0e gl B h lo hi v ks qs vs ts ps ws w h0 hpn hI g2 g3 g4 (fun i hi=>(g10 i (by omega)).1) (by omega) g6 (fun i hi=>(g10 i hi).2) hmay hz g8 g9 hnd (by omega) (fun i W hi hly hold=> ?_)).mono ?_
    ·have hit:i<ts.length:=by omega
     have hst:=z7r ts i hit;have hle:=z61 ts (i+1);have hsz:=g9 _ (z8b hit);exact z97 gl B h (va vs i) (ta ts i) _ _ W hly hold hsz.2 (fun _=>by omega) (fun e he=>hce e (y22 (z8b hit) he)) (hdl i hit) (fun x hx=>hpb x (List.mem_of_mem_drop hx))
      (fun p=>Nat.le_trans (x50 (y1h hit)) (hone2 p)) (fun p hp=>hrg2 p (Nat.lt_of_lt_of_le hp (x50 (y1h hit)))) (by rw[zla,z51];omega)
    ·rintro e w' ⟨x,rfl,g11,g12,g13⟩;rw[layT,wrT,Tr.need,if_pos h0,if_pos h0,if_pos h0];exact⟨x,rfl,g11,g12,g13⟩
  ·have h1:t.pg≠0:=by rw[hpg];exact h0
   have h2:=x77 t ps h1;refine(y5z gl v w h0).mono ?_;rintro e w' ⟨rfl,hb⟩;rw[h2.1,h2.2,y4s t h1,List.drop_zero,List.append_nil];exact⟨v,rfl,ho.s.ext hb (fun b hb _=>hb.1),hI.ext hb,q5w hb⟩
end Go.Proofs.YtdnfhjfbanhhcaaGreatDoor
