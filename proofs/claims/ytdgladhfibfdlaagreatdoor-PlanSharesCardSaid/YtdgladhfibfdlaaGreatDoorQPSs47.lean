/-
  Steps.
-/
import Derived.Test.YtdgladhfibfdlaaGreatDoorQPSs46
namespace Go.Proofs.YtdgladhfibfdlaaGreatDoor
open Go Go.RowKit Go.Proofs.Tryz
set_option maxRecDepth 100000
structure ShI (W wr:World) (g:Nat) (P1:List (List Nat)) (lv:Value) (el es:List En) (ts:List Tr) (p:Option Addr) (H i:Nat):Prop where
 t:TB wr g p es.length
 tr:Y6 wr p ts H
 mi:L5 (pgF P1) ts
 be:bare (esL ts)=es
 l:EV Y9 wr lv el
 n:es.length≤99+i
 b:zB W wr
theorem ShI.ext {W wr w':World}{g:Nat}{P1:List (List Nat)}{lv:Value}{el es:List En}{ts:List Tr}{p:Option Addr}{H i:Nat}(h:ShI W wr g P1 lv el es ts p H i)(hb:zB wr w'):ShI W w' g P1 lv el es ts p H i:=
 ⟨h.t.ext hb,h.tr.ext hb,h.mi,h.be,h.l.ext hb,h.n,h.b.trans (hb.mono h.b.size)⟩
theorem ShI.skip {W wr:World}{g:Nat}{P1:List (List Nat)}{lv:Value}{el es:List En}{ts:List Tr}{p:Option Addr}{H i:Nat}(h:ShI W wr g P1 lv el es ts p H i):ShI W wr g P1 lv el es ts p H (i+1):=
 ⟨h.t,h.tr,h.mi,h.be,h.l,znt h.n (by omega),h.b⟩
theorem ShI.list {W wr:World}{g:Nat}{P1:List (List Nat)}{lv u:Value}{el el2 es:List En}{ts:List Tr}{p:Option Addr}{H i:Nat}(h:ShI W wr g P1 lv el es ts p H i)(hu:EV Y9 wr u el2):ShI W wr g P1 u el2 es ts p H i:=
 ⟨h.t,h.tr,h.mi,h.be,hu,h.n,h.b⟩
theorem y6z (es:List En)(key:ByteArray):(tdL es key).length≤es.length:=by
 unfold tdL;split
 ·have:=Ey es key [];simp at this;omega
 ·exact zlr _
theorem y60 (P:Nat→List Nat)(p:Option Addr)(ts:List Tr)(H:Nat)(key:ByteArray)(es:List En)(w:World)(ht:Y6 w p ts H)(hb:bare (esL ts)=es)(hm:L5 P ts)(hl:es.length≤100000):
  Calls prog 27 #[.agg #[.pointer p,.int .i64 es.length],.string key] w fun e w'=>∃p' ts' H',e=.returned (.tuple #[.agg #[.pointer p',.int .i64 ((tdL es key).length:Nat)],.bool (isE es key)])∧Y6 w' p' ts' H'∧L5 P ts'∧bare (esL ts')=tdL es key∧zB w w':=by
 subst hb;rw[Uk] at hl⊢
 refine(z3j p ts H key w ht hl).mono ?_;rintro e w' ⟨p',ts',H',rfl,h1,⟨h2,h3⟩,hb⟩;have h4:bare (esL ts')=tdL (bare (esL ts)) key:=by rw[h2,y5x]
 refine⟨p',ts',H',?_,h1,hm.del h2 h3,h4,hb⟩;rw[←h4,Uk,(Lq _ _).2]
theorem y3k (P:Nat→List Nat)(p:Option Addr)(ts:List Tr)(H:Nat)(key v:ByteArray)(es:List En)(w:World)(ht:Y6 w p ts H)(hb:bare (esL ts)=es)(hm:L5 P ts)(hl:es.length<4096)(hk:okK key=true)(hv:v.size≤2048):
  Calls prog 29 #[.agg #[.pointer p,.int .i64 es.length],.string key,.string v] w fun e w'=>∃p' ts' H',e=.returned (.tuple #[.agg #[.pointer p',.int .i64 ((rep es key [⟨key,v,[]⟩]).length:Nat)],.nilIface])∧Y6 w' p' ts' H'∧L5 P ts'∧bare (esL ts')=rep es key [⟨key,v,[]⟩]∧zB w w':=by
 subst hb;rw[Uk] at hl⊢
 refine(y6y p ts H key v _ w ht rfl hl hk hv).mono ?_;rintro e w' ⟨p',ts',H',rfl,h1,h2,hb⟩;refine⟨p',ts',H',?_,h1,hm.put h2,h2.ste,hb⟩;rw[←h2.ste,Uk]
theorem z3v (lv:Value)(es:List En)(key:ByteArray)(w:World)(h:EV Y9 w lv es)(hl:es.length≤100000):
  Calls prog 28 #[lv,.string key] w fun e w'=>∃u,e=.returned (.tuple #[u,.bool (isE es key)])∧EV Y9 w' u (tdL es key)∧zB w w':=by
 obtain⟨a,c,rfl,hs,h1,h2,h3⟩:=h;exact yK a _ c es key w rfl hs hl h1 h2 h3
theorem z3w (lv:Value)(es:List En)(key v:ByteArray)(w:World)(h:EV Y9 w lv es)(hl:es.length<4096)(hk:okK key=true)(hv:v.size≤2048):
  Calls prog 30 #[lv,.string key,.string v] w fun e w'=>∃u,e=.returned (.tuple #[u,.int .i64 0])∧EV Y9 w' u (rep es key [⟨key,v,[]⟩])∧zB w w':=by
 obtain⟨a,c,rfl,hs,h1,h2,h3⟩:=h;obtain⟨h4,h5⟩:=y5y (es:=es) hk hv hl;have h6:=JG a _ c es key v w rfl hs (by omega) h1 h2 h3;rw[h4,h5] at h6;exact h6
theorem x3t:∀(es:List En),(∀e∈es,okE e)→cNs es≤5*es.length
 | [],_=>by simp[cNs]
 | e::r,h=>by
  have h1:=y3h (h e (by simp));have h2:=x3t r (fun x hx=>h x (by simp[hx]));have h3:cN e≤5:=by
   unfold cN nP;split<;>omega
  rw[cNs,List.length_cons];omega
theorem Y6.need7 {w:World}{p:Option Addr}{ts:List Tr}{H:Nat}(ht:Y6 w p ts H):Z2 ts≤7*(esL ts).length:=by
 have h1:=Ky ts;have h2:=ht.new.1;have h3:=x3t (esL ts) ht.okE.2;omega
theorem ShI.put {W wr:World}{g:Nat}{P1:List (List Nat)}{lv:Value}{el es es2:List En}{ts ts2:List Tr}{p p2:Option Addr}{H H2 i:Nat}(h:ShI W wr g P1 lv el es ts p H i)(hg:W.heap.size≤g)(htr:Y6 wr p2 ts2 H2)(hm:L5 (pgF P1) ts2)(he:bare (esL ts2)=es2)(hn:es2.length≤99+(i+1)):
  ShI W ((wr.setCell ⟨g,0,none⟩ (.pointer p2)).setCell ⟨g,1,none⟩ (.int .i64 es2.length)) g P1 lv el es2 ts2 p2 H2 (i+1):=
 ⟨h.t.put p2 _,htr.turn (Yv wr g (.pointer p2) (.int .i64 es2.length)) (TF.one h.t),hm,he,h.l.turn yY (Yv wr g (.pointer p2) (.int .i64 es2.length)) (TF.one h.t),hn,X4 h.b hg⟩
set_option maxHeartbeats 4000000 in
theorem z71 (n0 m0:Nat)(a:Option Addr)(ml mc:Nat)(acts:List Ac)(w:World)(hn:n0<65536)(hm0:m0<65536)(hma:acts.length=ml)(hsa:AS w a acts)(hml:ml≤9223372036854775807)(hg:Hg w)(hwo:Vz w)(hT:I7 w):
  Calls prog 4 #[.agg #[.int .u16 n0,.int .u16 m0],.slice a ml mc] w fun e w'=>e=.returned (.bool true)∧zB w w':=by
 obtain⟨W,hW,hA0,hb⟩:=Z1 w 23 #[.int .u16 n0,.int .u16 m0];have HA0:=zh hA0;obtain⟨N,hN⟩:∃N,N=n0%100:=⟨_,rfl⟩
 have eN:(n0:Int).tmod 100=(N:Int):=by rw[Int.tmod_eq_emod_of_nonneg (by omega)];omega
 have hN9:N≤99:=by omega
 have HWw:=zh hW;have GQ:Hid (GF w W):=⟨hb,hg.below hb,hwo.below hb,hT.below hb⟩
 clear hW hb hg hN hwo hT hA0;have Hact:=zh (zai hma (zai hsa GQ.out.b));clear hma hsa
 go_enter func4,ntmps4
 have Hgr:=zh (y2e N m0 W (by omega) (by omega) GQ.out.g);go_wp2_with fail;rw[HWw.out];refine(Hgr.out).mono ?_;rintro e v1 ⟨p,H,es,l,rfl,hn,hl,hln,hb⟩;replace GQ:=zh (GQ.out.ext hb);clear hb;obtain⟨ts,htr,hes,hu,hm,hnd,_⟩:=hn.lay;obtain⟨L,hL⟩:∃L,es.length=L:=⟨_,rfl⟩
 have hbe:bare (esL ts)=es:=by
  obtain⟨_,_,_,h3,_⟩:=hn;rw[hes];exact z4x (fun e he=>(h3 e he).1)
 rw[hL] at hnd hln⊢
 have HX:=zh (zai hes (zai hu (zai hm (zai hnd hbe))));have HLn:=zh hL;have HTR:=zh htr;have HEV:=zh hl;have HLN:=zh hln;clear Hgr hn hl htr hes hu hm hnd hL hbe hln;obtain⟨v2,hv2,hT,hb⟩:=Z1 v1 TT #[.pointer p,.int .i64 L];replace GQ:=zh (GQ.out.ext hb);replace HTR:=zh (HTR.out.ext hb);replace HEV:=zh (HEV.out.ext hb);have K5:Hid (TB v2 v1.heap.size p L):=hT;have Hv2:=zh hv2;clear hv2 hT hb;have hc:Z2 ts≤cnt (Vq (Tw 1024) ts) 1024:=by
  have h1:=xQ (ts:=ts) 1024 (by omega) (by omega) HX.out.2.1;have h2:=HX.out.2.2.2.1;have h3:=HLN.out;exact Nat.le_trans (by omega) (Nat.le_of_eq h1.symm)
 have hlie:=(HX.out.2.2.1 _).laid hc (PL:=List.replicate 1024 (List.replicate 512 0)) List.length_replicate;have hbare:=G9 ts (Sk (Tw 1024) ts);rw[HX.out.2.2.2.2] at hbare;obtain⟨us,hus⟩:∃x,Uy ts (Sk (Tw 1024) ts)=x:=⟨_,rfl⟩
 obtain⟨ws,hws⟩:∃x,wrL ts (Sk (Tw 1024) ts)=x:=⟨_,rfl⟩
 have Hin:Hid (∀x∈ws,2≤x.1∧x.1<1024):=fun x hx=>by
  have h1:x.1∈Sk (Tw 1024) ts:=by rw[←Mj hc,hws];exact List.mem_map_of_mem hx
  exact⟨(V4 h1).2.1,(V4 h1).2.2.1⟩
 have hwl:ws.length≤300:=by
  rw[←hws,I3];have h2:=HX.out.2.2.2.1;have h3:=HLN.out;omega
 rw[hus,hws] at hlie;rw[hus] at hbare;have HL:Hid (∀w',zB v2 w'→x0p p L (Tw 1024) .nilIface L us H ws w'):=fun w' hb=>by
  rw[←hus,←hws];exact ZQ (fun _=> []) _ p ts H L w' (HTR.out.ext hb) (HX.out.2.2.1 _) (by rw[HX.out.1];exact HLn.out) (by have:=HLN.out;omega) hc (GQ.out.wo.below hb) (GQ.out.ta.below hb)
 have hlen:(Dy (List.replicate 1024 (List.replicate 512 0)) ws).length=1024:=by rw[ZN];exact List.length_replicate
 obtain⟨P1,hP1⟩:∃P1,Dy (List.replicate 1024 (List.replicate 512 0)) ws=P1:=⟨_,rfl⟩
 rw[hP1] at hlie hlen;have HP1:=zh hP1;have HLi:=zh hlie;have Hbe:=zh hbare;have Hwl:=zh hwl;have Hlen:=zh hlen;clear hlie hbare hus hws hc hwl hlen hP1
 go_upto_region 4 with fail
 rw[Hv2.out]
 go_cut [8,9,10] (fun su sw se wx=>∃(gU:Nat) (pU:Option Addr) (vU:Value),su=.pointer (some ⟨gU,0,none⟩)∧sw=vU∧se=.nilIface∧Hid (LR v2 wx gU pU L vU us H ws))
 case first=>as_aux_lemma=>
  obtain⟨u0,hu0,hc⟩:∃u,v2.drew=u∧zB v2 u:=⟨_,rfl,(zbr _ _).drew⟩
  have hT0:=TB.ext K5.out hc;have hlt:=hT0.lt;have HU0:=zh hu0;have hz:u0.heap.size≤u0.heap.size:=zlr _;have q0:=fun w' (t:Zx (fun i=>u0.heap.size≤i) u0 w')=>(hT0.turn t (by omega)).c0
  have q1:=fun w' (t:Zx (fun i=>u0.heap.size≤i) u0 w')=>(hT0.turn t (by omega)).c1
  clear hu0;refine rgs (F:=fun i=>u0.heap.size≤i) (.rd 0 (.two 1 (.two 2 (.rd 3 (.rd 4 (.rd 5 (.rd 6 (.call 7 (.call 8 (.rd 9 (.rd 10 .done)))))))) 7 (.call 2 (.rd 3 (.rd 4 (.rd 5 (.rd 6 (.call 8 (.rd 9 (.rd 10 .done))))))))) 7 (.call 1 (.call 2 (.rd 3 (.rd 4 (.rd 5 (.rd 6 (.call 8 (.rd 9 (.rd 10 .done))))))))))) (h:= ?_);rw[HU0.out]
  (refine gsr (v:= ?_) rfl (by rfl) ?_ ?_;rotate_left;(intro w' hw';go_simp;with_reducible rfl);simp only[Act.put,zs0,zs1,zs2])
  clear q0 q1 hT0 hlt HU0;refine⟨?_,?_⟩
  ·refine gsc rfl (by rfl) (fun K hK=> ?_);go_simp;refine(Ty 1024 _ (by omega)).mono ?_;rintro e uB ⟨rfl,hb⟩;refine hK _ _ (x3x hb) ?_;clear hK K;replace hc:=hc.trans (hb.mono hc.size);replace hz:=znt hz hb.size;clear hb;refine⟨?_,?_⟩
   ·refine gsc rfl (by rfl) (fun K hK=> ?_);go_simp;refine(HL.out _ hc).mono ?_;rintro e uL ⟨pU,vU,rfl,htr,hwv,hb⟩;refine hK _ _ (x3x hb) ?_;clear hK K;replace hc:=hc.trans (hb.mono hc.size);replace hz:=znt hz hb.size;clear hb;iterate 4 (refine gsr (v:= ?_) rfl (by rfl) ?_ ?_;rotate_left;(intro w' hw';go_simp;with_reducible rfl);simp only[Act.put,zs0,zs1,zs2])
    obtain⟨uA,hA0,hA,hb⟩:=Z1 uL TT #[.pointer none,.int .i64 0];have HA0:=zh hA0;have hG:v2.heap.size≤uL.heap.size:=hc.size;have hG0:u0.heap.size≤uL.heap.size:=hz;replace hA:TB uA uL.heap.size none 0:=hA;clear hA0;refine gsc rfl (by rfl) (fun K hK=> ?_);go_simp;rw[HA0.out];refine hK _ _ (x3x hb) ?_;clear hK K;clear HA0;try simp only[Act.put,zs0,zs1,zs2]
    replace hc:=hc.trans (hb.mono hc.size);replace hz:=znt hz hb.size;replace htr:=htr.ext hb;replace hwv:=hwv.ext hb;clear hb;have c0:=hA.c0;have c1:=hA.c1;have f0:=hA.fz 0;have f1:=hA.fz 1;have hfin:=zh (LR.put (n:=L) hA hG htr hwv hc);have HT:Hid (Zx (fun i=>u0.heap.size≤i) uA ((uA.setCell ⟨uL.heap.size,0,none⟩ (.pointer pU)).setCell ⟨uL.heap.size,1,none⟩ (.int .i64 (L:Nat)))):=(Yv _ _ _ _).mono (fun i hi _=>by subst hi;exact hG0);refine gsc rfl (by rfl) (fun K hK=> ?_);go_simp;refine hK _ _ HT.out ?_;clear hK K c0 c1 f0 f1;iterate 2 (refine gsr (v:= ?_) rfl (by rfl) ?_ ?_;rotate_left;(intro w' hw';go_simp;with_reducible rfl);simp only[Act.put,zs0,zs1,zs2])
    refine Zy ?_;go_wp2;go_meet;exact⟨_,_,_,rfl,rfl,rfl,hfin⟩
   ·obtain⟨uA,hA0,hA,hb⟩:=Z1 uB TT #[.pointer none,.int .i64 0];have HA0:=zh hA0;have hG:v2.heap.size≤uB.heap.size:=hc.size;have hG0:u0.heap.size≤uB.heap.size:=hz;replace hA:TB uA uB.heap.size none 0:=hA;clear hA0;refine gsc rfl (by rfl) (fun K hK=> ?_);go_simp;rw[HA0.out];refine hK _ _ (x3x hb) ?_;clear hK K;clear HA0;try simp only[Act.put,zs0,zs1,zs2]
    replace hc:=hc.trans (hb.mono hc.size);replace hz:=znt hz hb.size;clear hb;refine gsc rfl (by rfl) (fun K hK=> ?_);go_simp;refine(HL.out _ hc).mono ?_;rintro e uL ⟨pU,vU,rfl,htr,hwv,hb⟩;refine hK _ _ (x3x hb) ?_;clear hK K;replace hc:=hc.trans (hb.mono hc.size);replace hz:=znt hz hb.size;replace hA:=TB.ext hA hb;clear hb;iterate 4 (refine gsr (v:= ?_) rfl (by rfl) ?_ ?_;rotate_left;(intro w' hw';go_simp;with_reducible rfl);simp only[Act.put,zs0,zs1,zs2])
    have c0:=hA.c0;have c1:=hA.c1;have f0:=hA.fz 0;have f1:=hA.fz 1;have hfin:=zh (LR.put (n:=L) hA hG htr hwv hc);have HT:Hid (Zx (fun i=>u0.heap.size≤i) uL ((uL.setCell ⟨uB.heap.size,0,none⟩ (.pointer pU)).setCell ⟨uB.heap.size,1,none⟩ (.int .i64 (L:Nat)))):=(Yv _ _ _ _).mono (fun i hi _=>by subst hi;exact hG0);refine gsc rfl (by rfl) (fun K hK=> ?_);go_simp;refine hK _ _ HT.out ?_;clear hK K c0 c1 f0 f1;iterate 2 (refine gsr (v:= ?_) rfl (by rfl) ?_ ?_;rotate_left;(intro w' hw';go_simp;with_reducible rfl);simp only[Act.put,zs0,zs1,zs2])
    refine Zy ?_;go_wp2;go_meet;exact⟨_,_,_,rfl,rfl,rfl,hfin⟩
  ·obtain⟨uA,hA0,hA,hb⟩:=Z1 u0 TT #[.pointer none,.int .i64 0];have HA0:=zh hA0;have hG:v2.heap.size≤u0.heap.size:=hc.size;have hG0:u0.heap.size≤u0.heap.size:=hz;replace hA:TB uA u0.heap.size none 0:=hA;clear hA0;refine gsc rfl (by rfl) (fun K hK=> ?_);go_simp;rw[HA0.out];refine hK _ _ (x3x hb) ?_;clear hK K;clear HA0;try simp only[Act.put,zs0,zs1,zs2]
   replace hc:=hc.trans (hb.mono hc.size);replace hz:=znt hz hb.size;clear hb;refine gsc rfl (by rfl) (fun K hK=> ?_);go_simp;refine(Ty 1024 _ (by omega)).mono ?_;rintro e uB ⟨rfl,hb⟩;refine hK _ _ (x3x hb) ?_;clear hK K;replace hc:=hc.trans (hb.mono hc.size);replace hz:=znt hz hb.size;replace hA:=TB.ext hA hb;clear hb;refine gsc rfl (by rfl) (fun K hK=> ?_);go_simp;refine(HL.out _ hc).mono ?_;rintro e uL ⟨pU,vU,rfl,htr,hwv,hb⟩;refine hK _ _ (x3x hb) ?_;clear hK K;replace hc:=hc.trans (hb.mono hc.size);replace hz:=znt hz hb.size;replace hA:=TB.ext hA hb;clear hb;iterate 4 (refine gsr (v:= ?_) rfl (by rfl) ?_ ?_;rotate_left;(intro w' hw';go_simp;with_reducible rfl);simp only[Act.put,zs0,zs1,zs2])
   have c0:=hA.c0;have c1:=hA.c1;have f0:=hA.fz 0;have f1:=hA.fz 1;have hfin:=zh (LR.put (n:=L) hA hG htr hwv hc);have HT:Hid (Zx (fun i=>u0.heap.size≤i) uL ((uL.setCell ⟨u0.heap.size,0,none⟩ (.pointer pU)).setCell ⟨u0.heap.size,1,none⟩ (.int .i64 (L:Nat)))):=(Yv _ _ _ _).mono (fun i hi _=>by subst hi;exact hG0);refine gsc rfl (by rfl) (fun K hK=> ?_);go_simp;refine hK _ _ HT.out ?_;clear hK K c0 c1 f0 f1;iterate 2 (refine gsr (v:= ?_) rfl (by rfl) ?_ ?_;rotate_left;(intro w' hw';go_simp;with_reducible rfl);simp only[Act.put,zs0,zs1,zs2])
   refine Zy ?_;go_wp2;go_meet;exact⟨_,_,_,rfl,rfl,rfl,hfin⟩
 case rest=>
  obtain⟨gU,pU,vU,rfl,rfl,rfl,hU⟩:=hcut;have hb:=hU.out.b;have HU:=hU;clear hU;replace GQ:=zh (GQ.out.ext hb);replace HTR:=zh (HTR.out.ext hb);replace HEV:=zh (HEV.out.ext hb);replace K5:=zh (TB.ext K5.out hb);clear hb;clear HL;have qT:∀(w:World) (a:Option Addr) (n c n' c':Nat),(binOp .eql 52 (.slice a n c) (.slice none n' c')).run prog w=.ok (.bool a.isNone) w:=fun w a n c n' c'=>Lib.run_eql_slice_nil w _ _ a n c n' c' underlying52
  obtain⟨va,vc,rfl,_⟩:=HU.out.wv.slice;go_wp2_with fail;refine((x2u 1024 _ (by omega))).mono ?_;rintro e v3 ⟨u9,rfl,hpv,hb⟩;replace GQ:=zh (GQ.out.ext hb);replace HTR:=zh (HTR.out.ext hb);replace HEV:=zh (HEV.out.ext hb);replace K5:=zh (TB.ext K5.out hb);replace HU:=zh (HU.out.ext hb);clear hb;have HPV:=zh hpv;clear hpv;go_wp2_with fail;refine((x2v u9 _ _ ws _ HPV.out (Nat.le_trans (Nat.le_of_eq List.length_replicate) (by omega)) (Nat.lt_of_lt_of_eq (by omega) List.length_replicate.symm) HU.out.wv (by have:=Hwl.out;omega) (fun x hx=>⟨(Hin.out x hx).1,Nat.lt_of_lt_of_eq (Hin.out x hx).2 List.length_replicate.symm⟩))).mono ?_;rintro e v4 ⟨u10,rfl,hp10,hb⟩;replace GQ:=zh (GQ.out.ext hb);replace HTR:=zh (HTR.out.ext hb);replace HEV:=zh (HEV.out.ext hb);replace K5:=zh (TB.ext K5.out hb);replace HU:=zh (HU.out.ext hb);replace HPV:=zh (HPV.out.ext hb);clear hb;rw[HP1.out] at hp10;have HPV:=zh hp10;obtain⟨pa,pc,rfl,_,hpa⟩:=hp10.arg;obtain⟨pg,po,rfl⟩:=hpa (by rw[Hlen.out];omega);rw[Hlen.out] at HPV⊢
  clear hpa;have CN:=zh (fun w ht=>ZR _ pU L us H 0 w ht HLi.out.mix HLi.out.need (by omega));have CU:=zh (fun w ht=>ZS _ pU L us H w ht HLi.out.mix);have c0:=TB.c0 HU.out.t;have c1:=TB.c1 HU.out.t;go_wp2_with fail;refine(CN.out _ HU.out.tr).mono ?_;rintro e v5 ⟨rfl,hb⟩;replace GQ:=zh (GQ.out.ext hb);replace HTR:=zh (HTR.out.ext hb);replace HEV:=zh (HEV.out.ext hb);replace K5:=zh (TB.ext K5.out hb);replace HU:=zh (HU.out.ext hb);replace HPV:=zh (HPV.out.ext hb);clear hb;clear c0 c1;have c0:=TB.c0 HU.out.t;have c1:=TB.c1 HU.out.t;have hsame:=z54 us (Sk (fun _=>false) us) HLi.out.pg;have HL0:x0p pU L (fun _=>false) .nilIface L us H [] v5:=by
   have h:=ZQ _ (fun _=>false) pU us H L v5 HU.out.tr HLi.out.mix (by rw[←Uk,Hbe.out];exact HLn.out) (by have:=HLN.out;omega) (by rw[HLi.out.need];omega) GQ.out.wo GQ.out.ta;rw[hsame.1,hsame.2] at h;exact h
  have HLc:=zh HL0;clear HL0 hsame
  go_wp2_with (refine Lk rfl rfl ?_)
  refine(HLc.out).mono ?_;rintro e v6 ⟨p3,vw3,rfl,htr3,hwv3,hb⟩;replace GQ:=zh (GQ.out.ext hb);replace HTR:=zh (HTR.out.ext hb);replace HEV:=zh (HEV.out.ext hb);replace K5:=zh (TB.ext K5.out hb);replace HU:=zh (HU.out.ext hb);replace HPV:=zh (HPV.out.ext hb);clear hb;clear c0 c1 HLc;obtain⟨va3,vc3,rfl,_⟩:=hwv3.slice;rw[List.length_nil];have HT3:=zh htr3;clear hwv3 htr3;obtain⟨v7,hv7,hT,hb⟩:=Z1 v6 TT #[.pointer p3,.int .i64 L];replace GQ:=zh (GQ.out.ext hb);replace HTR:=zh (HTR.out.ext hb);replace HEV:=zh (HEV.out.ext hb);replace K5:=zh (TB.ext K5.out hb);replace HU:=zh (HU.out.ext hb);replace HPV:=zh (HPV.out.ext hb);replace HT3:=zh (HT3.out.ext hb);have K12:Hid (TB v7 v6.heap.size p3 L):=hT;have Hv7:=zh hv7;clear hv7 hT hb;have CU3:=zh (fun w ht=>ZS _ p3 L us H w ht HLi.out.mix)
  go_upto_region 9 with fail
  rw[Hv7.out];refine rgr [(0,true),(1,true),(2,true),(3,true),(4,true),(5,true),(6,true),(7,true),(8,true),(10,true),(9,false),(11,false),(12,true),(13,true)] (h:= ?_);obtain⟨ud,hud,hb⟩:∃u,v7.drew=u∧zB v7 u:=⟨_,rfl,(zbr _ _).drew⟩
  rw[hud];replace GQ:=zh (GQ.out.ext hb);replace HTR:=zh (HTR.out.ext hb);replace HEV:=zh (HEV.out.ext hb);replace K5:=zh (TB.ext K5.out hb);replace HU:=zh (HU.out.ext hb);replace HPV:=zh (HPV.out.ext hb);replace HT3:=zh (HT3.out.ext hb);replace K12:=zh (TB.ext K12.out hb);clear hb hud;have qa0:=fun w' (h:Ext ud w')=>(TB.ext (K12.out) h).c0
  have qa1:=fun w' (h:Ext ud w')=>(TB.ext (K12.out) h).c1
  have qb0:=fun w' (h:Ext ud w')=>(TB.ext (HU.out.t) h).c0
  have qb1:=fun w' (h:Ext ud w')=>(TB.ext (HU.out.t) h).c1
  iterate 10 (refine grr (v:= ?_) rfl (by rfl) ?_ ?_;rotate_left;(intro w' hw';go_simp;with_reducible rfl);simp only[Act.put,zs0,zs1,zs2])
  clear qa0 qa1 qb0 qb1;refine grc rfl (by rfl) (fun K hK=> ?_);go_simp;refine(CU3.out ud HT3.out).mono ?_;rintro e v8 ⟨rfl,hb⟩;refine hK _ _ hb ?_;clear hK K;replace GQ:=zh (GQ.out.ext hb);replace HTR:=zh (HTR.out.ext hb);replace HEV:=zh (HEV.out.ext hb);replace K5:=zh (TB.ext K5.out hb);replace HU:=zh (HU.out.ext hb);replace HPV:=zh (HPV.out.ext hb);replace HT3:=zh (HT3.out.ext hb);replace K12:=zh (TB.ext K12.out hb);clear hb;try simp only[Act.put,zs0,zs1,zs2]
  refine grc rfl (by rfl) (fun K hK=> ?_);go_simp;refine(CU.out v8 HU.out.tr).mono ?_;rintro e v9 ⟨rfl,hb⟩;refine hK _ _ hb ?_;clear hK K;replace GQ:=zh (GQ.out.ext hb);replace HTR:=zh (HTR.out.ext hb);replace HEV:=zh (HEV.out.ext hb);replace K5:=zh (TB.ext K5.out hb);replace HU:=zh (HU.out.ext hb);replace HPV:=zh (HPV.out.ext hb);replace HT3:=zh (HT3.out.ext hb);replace K12:=zh (TB.ext K12.out hb);clear hb;try simp only[Act.put,zs0,zs1,zs2]
  refine grr (v:=.bool false) rfl (by rfl) (fun w' hw'=>y0r (.tmp 83) (.tmp 85) _ rfl _ _ (by rfl) (by rfl) rfl) ?_;simp only[Act.put,zs0,zs1,zs2];iterate 1 (refine grr (v:= ?_) rfl (by rfl) ?_ ?_;rotate_left;(intro w' hw';go_simp;with_reducible rfl);simp only[Act.put,zs0,zs1,zs2])
  refine Yq ?_;have c0:=TB.c0 HU.out.t;have c1:=TB.c1 HU.out.t;obtain⟨la,lc,rfl,hes0,hlz⟩:=HEV.out;rw[HLn.out] at hlz⊢
  have HE:=zh hes0;have HLz:=zh hlz;clear hes0 hlz HEV;obtain⟨y1,hy1,hyT,hyb⟩:=Z1 v9 TT #[.pointer pU,.int .i64 L];have HY:=zh hy1;have Hst:Hid (ShI v9 y1 v9.heap.size P1 (.slice la L lc) es es us pU H 0):=⟨HLn.out▸(hyT:TB y1 v9.heap.size pU L),HU.out.tr.ext hyb,HLi.out.mix,Hbe.out,by
   have h:EV Y9 v9 (.slice la L lc) es:=⟨la,lc,by rw[HLn.out],HE.out,HLn.out.symm▸HLz.out⟩
   exact h.ext hyb,by have:=HLN.out;rw[HLn.out];omega,hyb⟩
  clear hy1 hyT hyb;go_wp2_with fail;rw[HY.out];clear c0 c1
  go_loopw [16,17,18,19,20,21,22] (fun mv iv _ _ _ _ _ wr=>∃(i:Nat) (lv:Value) (ec:List En) (tn:List Tr) (pn:Option Addr) (Hn:Nat),iv=.int .i64 i∧lv=mv∧i≤ml∧i≤20∧Hid (ShI v9 wr v9.heap.size P1 lv ec ec tn pn Hn i)) (fun _ iv _ _ _ _ _ _=>20-(intOf iv).toNat)
  case atStart=>exact⟨0,_,es,us,pU,H,rfl,rfl,by omega,by omega,Hst⟩
  case round=>
   obtain⟨i,lv,ec,tn,pn,Hn,rfl,rfl,him,hi20,hst⟩:=hrel
   go_upto_region 13 with fail
   go_cut [97] (fun s97 wx=>s97=.bool (decide (i<ml∧i<20))∧wx=wr)
   case first=>
    by_cases h1:i<ml
    ·have i1:(i:Int)<(ml:Int):=by omega
     by_cases h2:i<20
     ·have i2:(i:Int)<20:=by omega
      have h3:decide (i<ml∧i<20)=true:=zdt ⟨h1,h2⟩;go_wp2;go_meet;exact⟨by rw[h3],rfl⟩
     ·have i2:¬(i:Int)<20:=by omega
      have h3:decide (i<ml∧i<20)=false:=zdf (fun h=>h2 h.2);go_wp2;go_meet;exact⟨by rw[h3],rfl⟩
    ·have i1:¬(i:Int)<(ml:Int):=by omega
     have h3:decide (i<ml∧i<20)=false:=zdf (fun h=>h1 h.1);go_wp2;go_meet;exact⟨by rw[h3],rfl⟩
   case rest=>
    obtain⟨rfl,rfl⟩:=hcut
    by_cases hlt:i<ml∧i<20
    ·rw[zdt hlt];obtain⟨ga,oa,rfl,hacts⟩:=(Hact.out.2.1.below (GQ.out.b.trans (hst.out.b.mono GQ.out.b.size)) (zlr _)) (by rw[Hact.out.1];omega)
     obtain⟨k0,k1,k2⟩:=hacts i (by rw[Hact.out.1];exact hlt.1);have i1:(0:Int)≤(i:Int):=by omega
     have i2:(i:Int)<(ml:Int):=by omega
     have z0:IntKind.i64.wrap (i:Int)=(i:Int):=by rw[IntKind.wrap_i64];omega
     generalize aca acts i=y at*;obtain⟨kx,key,val⟩:=y;dsimp only at k0 k1 k2;obtain⟨R,hR⟩:∃R,kx.tmod 2=R:=⟨_,rfl⟩
     obtain⟨x1,hx1,hA1,hbx⟩:=Z1 wc ACT #[.int .i64 kx,.string key,.string val];have hst1:=hst.out.ext hbx;have HX1:=zh hx1;have HA1:=zh hA1;have Hst1:=zh hst1;have e0:(wc.alloc (.cells #[.int .i64 kx,.string key,.string val] ACT)).cell? ⟨v9.heap.size,0,none⟩=some (.pointer pn):=by rw[hx1];exact hst1.t.c0
     have e1:(wc.alloc (.cells #[.int .i64 kx,.string key,.string val] ACT)).cell? ⟨v9.heap.size,1,none⟩=some (.int .i64 ec.length):=by rw[hx1];exact hst1.t.c1
     have Hskip:Hid (ShI v9 (wc.alloc (.cells #[.int .i64 kx,.string key,.string val] ACT)) v9.heap.size P1 lv ec ec tn pn Hn (i+1)):=by show ShI _ _ _ _ _ _ _ _ _ _ _;rw[hx1];exact hst1.skip
     have hi19:=hlt.2;have hml1:=hlt.1;have hne:wc.heap.size≠v9.heap.size:=by have:=hst.out.t.lt;omega
     have Hne:=zh hne;have hec:=hst.out.n;have Hec:=zh hec;clear hacts hx1 hA1 hbx hst1 hne hst hlt hec
     by_cases g1:key.size<1
     ·have d1:decide ((key.size:Int)<1)=true:=zdt (by omega);clear g1 e0 e1 HX1 HA1 Hst1 hR;go_wp2_with fail
      go_roundw
      case rel=>exact⟨i+1,lv,ec,tn,pn,Hn,by go_num,rfl,by omega,by omega,Hskip⟩
      case measure=>simp[intOf];omega
     have d1:decide ((key.size:Int)<1)=false:=zdf (by omega)
     by_cases g2:40<key.size
     ·have d2:decide (40<(key.size:Int))=true:=zdt (by omega);clear g1 e0 e1 HX1 HA1 Hst1 hR;go_wp2_with fail
      go_roundw
      case rel=>exact⟨i+1,lv,ec,tn,pn,Hn,by go_num,rfl,by omega,by omega,Hskip⟩
      case measure=>simp[intOf];omega
     have d2:decide (40<(key.size:Int))=false:=zdf (by omega)
     by_cases g3:2048<val.size
     ·have d3:decide (2048<(val.size:Int))=true:=zdt (by omega);clear g1 e0 e1 HX1 HA1 Hst1 hR;go_wp2_with fail
      go_roundw
      case rel=>exact⟨i+1,lv,ec,tn,pn,Hn,by go_num,rfl,by omega,by omega,Hskip⟩
      case measure=>simp[intOf];omega
     have d3:decide (2048<(val.size:Int))=false:=zdf (by omega);have hkey:Hid (okK key=true):=by show _=_;unfold okK;simp;omega
     have hval:Hid (val.size≤2048):=by show _≤_;omega
     clear g1 g2 g3;have hec9:=Hec.out
     by_cases hdel:R=1
     ·as_aux_lemma=>
      have dR:(R==1)=true:=by rw[beq_iff_eq];exact hdel
      clear Hskip hdel;have hlen2:(tdL ec key).length≤99+(i+1):=by
       have:=y6z ec key;omega
      have Hcall:=zh (y60 (pgF P1) pn tn Hn key ec x1 Hst1.out.tr Hst1.out.be Hst1.out.mi (by omega));obtain⟨m1,hm1⟩:∃m,ec.length=m:=⟨_,rfl⟩
      obtain⟨N2,hN2⟩:∃m,(tdL ec key).length=m:=⟨_,rfl⟩
      have HN2:=zh hN2;have Hl2:=zh hlen2;rw[hm1] at e1 hec9;rw[hm1,hN2] at Hcall;clear hm1 hN2 hlen2;go_wp2_with fail;rw[HX1.out];refine Hcall.out.mono ?_;rintro e x4 ⟨p2,ts2,H2,rfl,ht2,hm2,hb2,hb4⟩;have hst4:=Hst1.out.ext hb4;have d0:=hst4.t.c0;have d1':=hst4.t.c1;have f0:=hst4.t.fz 0;have f1:=hst4.t.fz 1;have hA4:=(hb4.block _ (zag.1 HA1.out).1).trans HA1.out;have htp:=Yv x4 v9.heap.size (.pointer p2) (.int .i64 (N2:Nat));have x1':((x4.setCell ⟨v9.heap.size,0,none⟩ (.pointer p2)).setCell ⟨v9.heap.size,1,none⟩ (.int .i64 (N2:Nat))).cell? ⟨wc.heap.size,1,none⟩=some (.string key):=by
       have h:=htp.hg hA4 Hne.out;simp[World.cell?,h]
      have hst5:=hst4.put (zlr _) ht2 hm2 hb2 Hl2.out;rw[HN2.out] at hst5;have Hst5:=zh hst5;have Href:=zh (z3v lv ec key _ hst5.l (by have:=Hec.out;omega));clear hst4 hA4 htp hst5 ht2 hm2 hb2 hb4 Hcall e0 e1;go_wp2_with fail;refine Href.out.mono ?_;rintro e x5 ⟨u,rfl,hu,hb5⟩;have Hfin:=zh ((Hst5.out.ext hb5).list hu);clear hu hb5 Href Hst5 d0 d1' f0 f1 x1';go_wp2_with fail
      go_roundw
      case rel=>exact⟨i+1,u,tdL ec key,ts2,p2,H2,by go_num,rfl,by omega,by omega,Hfin⟩
      case measure=>simp[intOf];omega
     ·as_aux_lemma=>
      have dR:(R==1)=false:=by rw[beq_eq_false_iff_ne];exact hdel
      clear Hskip hdel;have hlen2:(rep ec key [⟨key,val,[]⟩]).length≤99+(i+1):=by
       have:=Ey ec key [⟨key,val,[]⟩];simp only[List.length_singleton] at this;omega
      have Hcall:=zh (y3k (pgF P1) pn tn Hn key val ec x1 Hst1.out.tr Hst1.out.be Hst1.out.mi (by omega) hkey.out hval.out);obtain⟨m1,hm1⟩:∃m,ec.length=m:=⟨_,rfl⟩
      obtain⟨N2,hN2⟩:∃m,(rep ec key [⟨key,val,[]⟩]).length=m:=⟨_,rfl⟩
      have HN2:=zh hN2;have Hl2:=zh hlen2;rw[hm1] at e1 hec9;rw[hm1,hN2] at Hcall;clear hm1 hN2 hlen2;go_wp2_with fail;rw[HX1.out];refine Hcall.out.mono ?_;rintro e x4 ⟨p2,ts2,H2,rfl,ht2,hm2,hb2,hb4⟩;obtain⟨x6,hx6,hT6,hb46⟩:=Z1 x4 TT #[.pointer p2,.int .i64 (N2:Int)];have HX6:=zh hx6;have hb16:=hb4.trans (hb46.mono hb4.size);have hst6:=Hst1.out.ext hb16;have hA4:=(hb4.block _ (zag.1 HA1.out).1).trans HA1.out;have hA6:=(hb46.block _ (zag.1 hA4).1).trans hA4;have x1':x4.cell? ⟨wc.heap.size,1,none⟩=some (.string key):=by simp[World.cell?,hA4]
      have x2':x4.cell? ⟨wc.heap.size,2,none⟩=some (.string val):=by simp[World.cell?,hA4]
      have x3':(x4.alloc (.cells #[.pointer p2,.int .i64 (N2:Int)] TT)).cell? ⟨wc.heap.size,1,none⟩=some (.string key):=by rw[hx6];simp[World.cell?,hA6]
      have x4':(x4.alloc (.cells #[.pointer p2,.int .i64 (N2:Int)] TT)).cell? ⟨wc.heap.size,2,none⟩=some (.string val):=by rw[hx6];simp[World.cell?,hA6]
      have HT6:Hid (TB x6 x4.heap.size p2 (N2:Int)):=hT6;have Ht6:=zh (ht2.ext hb46);have Hmb:=zh (zai hm2 hb2);have Hst6:=zh hst6;have Href:=zh (z3w lv ec key val x6 hst6.l (by have:=Hec.out;omega) hkey.out hval.out);clear hx6 hT6 hb46 hb16 hst6 hA4 hA6 ht2 hm2 hb2 hb4 Hcall e0 e1;go_wp2_with fail;rw[HX6.out];refine Href.out.mono ?_;rintro e x5 ⟨u,rfl,hu,hb5⟩;have hst5:=(Hst6.out.ext hb5).list hu;have hT5:TB x5 x4.heap.size p2 (N2:Int):=TB.ext HT6.out hb5;have c0':=hT5.c0;have c1':=hT5.c1;have d0:=hst5.t.c0;have d1':=hst5.t.c1;have f0:=hst5.t.fz 0;have f1:=hst5.t.fz 1;have hfin:=hst5.put (zlr _) (Ht6.out.ext hb5) Hmb.out.1 Hmb.out.2 Hl2.out;rw[HN2.out] at hfin;have Hfin:=zh hfin;clear hst5 hT5 hfin hu hb5 Href Hst6 HT6 Ht6 Hmb x1' x2' x3' x4';go_wp2_with fail
      go_roundw
      case rel=>exact⟨i+1,u,rep ec key [⟨key,val,[]⟩],ts2,p2,H2,by go_num,rfl,by omega,by omega,Hfin⟩
      case measure=>simp[intOf];omega
    ·rw[zdf hlt];clear hlt;have hb:=hst.out.b;have K15:=zh hst.out.t;have HTN:=zh hst.out.tr;have HEL:=hst.out.l;have HM:=zh (zai hst.out.mi (zai hst.out.be hst.out.n));clear hst;replace GQ:=zh (GQ.out.ext hb);replace HU:=zh (HU.out.ext hb);replace HPV:=zh (HPV.out.ext hb);replace HE:=zh (HE.out.ext2 hb);clear hb;obtain⟨M,hM⟩:∃M,ec.length=M:=⟨_,rfl⟩
     obtain⟨ma,mc2,rfl,hse,_⟩:=HEL;rw[hM] at K15;have HEM:=zh hse;have hM9:M≤119:=by have:=HM.out.2.2;omega
     have HMl:=zh hM;clear hse;obtain⟨F2,hF2⟩:∃F,(fun m=>Tw 1024 m&& !Qw (fun _=>false) (uL us) m)=F:=⟨_,rfl⟩
     have HXl:=zh (fun w=>hF2▸Lz (Tw 1024) (Qw (fun _=>false) (uL us)) w);have HF2:=zh hF2;have hlen2:(esL tn).length=M:=by rw[←Uk,HM.out.2.1,hM]
     have hnd2:Z2 tn≤900:=by
      have:=HTN.out.need7;omega
     have Hl2:=zh hlen2;have Hnd2:=zh hnd2;clear hM hF2 hlen2 hnd2;rw[HMl.out];obtain⟨ER,n2,vs,H2,w2,HL2,HCs⟩:∃(ER:Value) (n2:Nat) (vs:List Tr) (H2:Nat) (w2:List PgW),Hid (∀w',zB wc w'→x0p pn M F2 ER n2 vs H2 w2 w')∧Hid (ER=.iface 110 (.int .i64 8)∨(ER=.nilIface∧M=n2∧Hn=H2∧Uy tn (Sk F2 tn)=vs∧wrL tn (Sk F2 tn)=w2∧Z2 tn≤cnt (Vq F2 tn) 1024)):=by
      by_cases hfew:cnt (Vq F2 tn) 1024<Z2 tn
      ·exact⟨_,0,[],0,[],fun w' hb=>y3i _ _ pn M tn Hn w' (HTN.out.ext hb) HM.out.1 (by have:=Hnd2.out;omega) hfew,.inl rfl⟩
      ·have hc:Z2 tn≤cnt (Vq F2 tn) 1024:=by omega
       exact⟨.nilIface,M,_,Hn,_,fun w' hb=>ZQ _ F2 pn tn Hn M w' (HTN.out.ext hb) HM.out.1 Hl2.out (by omega) hc (GQ.out.wo.below hb) (GQ.out.ta.below hb),.inr ⟨rfl,rfl,rfl,rfl,rfl,hc⟩⟩
     go_upto_region 25 with fail
     go_cut [23,24,25] (fun su sw se wx=>∃(gU:Nat) (pU:Option Addr) (vU:Value),su=.pointer (some ⟨gU,0,none⟩)∧sw=vU∧se=ER∧Hid (LR wc wx gU pU n2 vU vs H2 w2))
     case first=>as_aux_lemma=>
      obtain⟨u0,hu0,hc⟩:∃u,wc.drew=u∧zB wc u:=⟨_,rfl,(zbr _ _).drew⟩
      have hT0:=TB.ext K15.out hc;have hT1:=HU.out.t.ext hc;have hlt:=hT0.lt;have hlt1:=hT1.lt;have HU0:=zh hu0;have hz:u0.heap.size≤u0.heap.size:=zlr _;have q0:=fun w' (t:Zx (fun i=>u0.heap.size≤i) u0 w')=>(hT0.turn t (by omega)).c0
      have q1:=fun w' (t:Zx (fun i=>u0.heap.size≤i) u0 w')=>(hT0.turn t (by omega)).c1
      have q2:=fun w' (t:Zx (fun i=>u0.heap.size≤i) u0 w')=>(hT1.turn t (by omega)).c0
      have q3:=fun w' (t:Zx (fun i=>u0.heap.size≤i) u0 w')=>(hT1.turn t (by omega)).c1
      clear hu0;refine rgs (F:=fun i=>u0.heap.size≤i) (.rd 0 (.rd 2 (.two 1 (.two 3 (.two 4 (.two 5 (.rd 6 (.rd 7 (.rd 8 (.rd 9 (.call 10 (.call 11 (.rd 12 (.rd 13 .done)))))))) 10 (.call 5 (.rd 6 (.rd 7 (.rd 8 (.rd 9 (.call 11 (.rd 12 (.rd 13 .done))))))))) 10 (.call 4 (.call 5 (.rd 6 (.rd 7 (.rd 8 (.rd 9 (.call 11 (.rd 12 (.rd 13 .done)))))))))) 10 (.call 3 (.call 4 (.call 5 (.rd 6 (.rd 7 (.rd 8 (.rd 9 (.call 11 (.rd 12 (.rd 13 .done))))))))))) 10 (.call 1 (.call 3 (.call 4 (.call 5 (.rd 6 (.rd 7 (.rd 8 (.rd 9 (.call 11 (.rd 12 (.rd 13 .done)))))))))))))) (h:= ?_);rw[HU0.out];iterate 2 (refine gsr (v:= ?_) rfl (by rfl) ?_ ?_;rotate_left;(intro w' hw';go_simp;with_reducible rfl);simp only[Act.put,zs0,zs1,zs2])
      clear q0 q1 q2 q3 hT0 hT1 hlt hlt1 HU0;refine⟨?_,?_⟩
      ·refine gsc rfl (by rfl) (fun K hK=> ?_);go_simp;refine(Ty 1024 _ (by omega)).mono ?_;rintro e uB ⟨rfl,hb⟩;refine hK _ _ (x3x hb) ?_;clear hK K;replace hc:=hc.trans (hb.mono hc.size);replace hz:=znt hz hb.size;clear hb;refine⟨?_,?_⟩
       ·refine gsc rfl (by rfl) (fun K hK=> ?_);go_simp;refine(CU.out _ (HU.out.tr.ext hc)).mono ?_;rintro e uU ⟨rfl,hb⟩;refine hK _ _ (x3x hb) ?_;clear hK K;replace hc:=hc.trans (hb.mono hc.size);replace hz:=znt hz hb.size;clear hb;refine⟨?_,?_⟩
        ·refine gsc rfl (by rfl) (fun K hK=> ?_);go_simp;refine(HXl.out _).mono ?_;rintro e uX ⟨rfl,hb⟩;refine hK _ _ (x3x hb) ?_;clear hK K;replace hc:=hc.trans (hb.mono hc.size);replace hz:=znt hz hb.size;clear hb;refine⟨?_,?_⟩
         ·refine gsc rfl (by rfl) (fun K hK=> ?_);go_simp;refine(HL2.out _ hc).mono ?_;rintro e uL1 ⟨pU,vU,rfl,htr,hwv,hb⟩;refine hK _ _ (x3x hb) ?_;clear hK K;replace hc:=hc.trans (hb.mono hc.size);replace hz:=znt hz hb.size;clear hb;iterate 4 (refine gsr (v:= ?_) rfl (by rfl) ?_ ?_;rotate_left;(intro w' hw';go_simp;with_reducible rfl);simp only[Act.put,zs0,zs1,zs2])
          obtain⟨uA,hA0,hA,hb⟩:=Z1 uL1 TT #[.pointer none,.int .i64 0];have HA0:=zh hA0;have hG:wc.heap.size≤uL1.heap.size:=hc.size;have hG0:u0.heap.size≤uL1.heap.size:=hz;replace hA:TB uA uL1.heap.size none 0:=hA;clear hA0;refine gsc rfl (by rfl) (fun K hK=> ?_);go_simp;rw[HA0.out];refine hK _ _ (x3x hb) ?_;clear hK K;clear HA0;try simp only[Act.put,zs0,zs1,zs2]
          replace hc:=hc.trans (hb.mono hc.size);replace hz:=znt hz hb.size;replace htr:=htr.ext hb;replace hwv:=hwv.ext hb;clear hb;have c0:=hA.c0;have c1:=hA.c1;have f0:=hA.fz 0;have f1:=hA.fz 1;have hfin:=zh (LR.put (n:=n2) hA hG htr hwv hc);have HT:Hid (Zx (fun i=>u0.heap.size≤i) uA ((uA.setCell ⟨uL1.heap.size,0,none⟩ (.pointer pU)).setCell ⟨uL1.heap.size,1,none⟩ (.int .i64 (n2:Nat)))):=(Yv _ _ _ _).mono (fun i hi _=>by subst hi;exact hG0);refine gsc rfl (by rfl) (fun K hK=> ?_);go_simp;refine hK _ _ HT.out ?_;clear hK K c0 c1 f0 f1;iterate 2 (refine gsr (v:= ?_) rfl (by rfl) ?_ ?_;rotate_left;(intro w' hw';go_simp;with_reducible rfl);simp only[Act.put,zs0,zs1,zs2])
          refine Zy ?_;go_wp2;go_meet;exact⟨_,_,_,rfl,rfl,rfl,hfin⟩
         ·obtain⟨uA,hA0,hA,hb⟩:=Z1 uX TT #[.pointer none,.int .i64 0];have HA0:=zh hA0;have hG:wc.heap.size≤uX.heap.size:=hc.size;have hG0:u0.heap.size≤uX.heap.size:=hz;replace hA:TB uA uX.heap.size none 0:=hA;clear hA0;refine gsc rfl (by rfl) (fun K hK=> ?_);go_simp;rw[HA0.out];refine hK _ _ (x3x hb) ?_;clear hK K;clear HA0;try simp only[Act.put,zs0,zs1,zs2]
          replace hc:=hc.trans (hb.mono hc.size);replace hz:=znt hz hb.size;clear hb;refine gsc rfl (by rfl) (fun K hK=> ?_);go_simp;refine(HL2.out _ hc).mono ?_;rintro e uL1 ⟨pU,vU,rfl,htr,hwv,hb⟩;refine hK _ _ (x3x hb) ?_;clear hK K;replace hc:=hc.trans (hb.mono hc.size);replace hz:=znt hz hb.size;replace hA:=TB.ext hA hb;clear hb;iterate 4 (refine gsr (v:= ?_) rfl (by rfl) ?_ ?_;rotate_left;(intro w' hw';go_simp;with_reducible rfl);simp only[Act.put,zs0,zs1,zs2])
          have c0:=hA.c0;have c1:=hA.c1;have f0:=hA.fz 0;have f1:=hA.fz 1;have hfin:=zh (LR.put (n:=n2) hA hG htr hwv hc);have HT:Hid (Zx (fun i=>u0.heap.size≤i) uL1 ((uL1.setCell ⟨uX.heap.size,0,none⟩ (.pointer pU)).setCell ⟨uX.heap.size,1,none⟩ (.int .i64 (n2:Nat)))):=(Yv _ _ _ _).mono (fun i hi _=>by subst hi;exact hG0);refine gsc rfl (by rfl) (fun K hK=> ?_);go_simp;refine hK _ _ HT.out ?_;clear hK K c0 c1 f0 f1;iterate 2 (refine gsr (v:= ?_) rfl (by rfl) ?_ ?_;rotate_left;(intro w' hw';go_simp;with_reducible rfl);simp only[Act.put,zs0,zs1,zs2])
          refine Zy ?_;go_wp2;go_meet;exact⟨_,_,_,rfl,rfl,rfl,hfin⟩
        ·obtain⟨uA,hA0,hA,hb⟩:=Z1 uU TT #[.pointer none,.int .i64 0];have HA0:=zh hA0;have hG:wc.heap.size≤uU.heap.size:=hc.size;have hG0:u0.heap.size≤uU.heap.size:=hz;replace hA:TB uA uU.heap.size none 0:=hA;clear hA0;refine gsc rfl (by rfl) (fun K hK=> ?_);go_simp;rw[HA0.out];refine hK _ _ (x3x hb) ?_;clear hK K;clear HA0;try simp only[Act.put,zs0,zs1,zs2]
         replace hc:=hc.trans (hb.mono hc.size);replace hz:=znt hz hb.size;clear hb;refine gsc rfl (by rfl) (fun K hK=> ?_);go_simp;refine(HXl.out _).mono ?_;rintro e uX ⟨rfl,hb⟩;refine hK _ _ (x3x hb) ?_;clear hK K;replace hc:=hc.trans (hb.mono hc.size);replace hz:=znt hz hb.size;replace hA:=TB.ext hA hb;clear hb;refine gsc rfl (by rfl) (fun K hK=> ?_);go_simp;refine(HL2.out _ hc).mono ?_;rintro e uL1 ⟨pU,vU,rfl,htr,hwv,hb⟩;refine hK _ _ (x3x hb) ?_;clear hK K;replace hc:=hc.trans (hb.mono hc.size);replace hz:=znt hz hb.size;replace hA:=TB.ext hA hb;clear hb;iterate 4 (refine gsr (v:= ?_) rfl (by rfl) ?_ ?_;rotate_left;(intro w' hw';go_simp;with_reducible rfl);simp only[Act.put,zs0,zs1,zs2])
         have c0:=hA.c0;have c1:=hA.c1;have f0:=hA.fz 0;have f1:=hA.fz 1;have hfin:=zh (LR.put (n:=n2) hA hG htr hwv hc);have HT:Hid (Zx (fun i=>u0.heap.size≤i) uL1 ((uL1.setCell ⟨uU.heap.size,0,none⟩ (.pointer pU)).setCell ⟨uU.heap.size,1,none⟩ (.int .i64 (n2:Nat)))):=(Yv _ _ _ _).mono (fun i hi _=>by subst hi;exact hG0);refine gsc rfl (by rfl) (fun K hK=> ?_);go_simp;refine hK _ _ HT.out ?_;clear hK K c0 c1 f0 f1;iterate 2 (refine gsr (v:= ?_) rfl (by rfl) ?_ ?_;rotate_left;(intro w' hw';go_simp;with_reducible rfl);simp only[Act.put,zs0,zs1,zs2])
         refine Zy ?_;go_wp2;go_meet;exact⟨_,_,_,rfl,rfl,rfl,hfin⟩
       ·obtain⟨uA,hA0,hA,hb⟩:=Z1 uB TT #[.pointer none,.int .i64 0];have HA0:=zh hA0;have hG:wc.heap.size≤uB.heap.size:=hc.size;have hG0:u0.heap.size≤uB.heap.size:=hz;replace hA:TB uA uB.heap.size none 0:=hA;clear hA0;refine gsc rfl (by rfl) (fun K hK=> ?_);go_simp;rw[HA0.out];refine hK _ _ (x3x hb) ?_;clear hK K;clear HA0;try simp only[Act.put,zs0,zs1,zs2]
        replace hc:=hc.trans (hb.mono hc.size);replace hz:=znt hz hb.size;clear hb;refine gsc rfl (by rfl) (fun K hK=> ?_);go_simp;refine(CU.out _ (HU.out.tr.ext hc)).mono ?_;rintro e uU ⟨rfl,hb⟩;refine hK _ _ (x3x hb) ?_;clear hK K;replace hc:=hc.trans (hb.mono hc.size);replace hz:=znt hz hb.size;replace hA:=TB.ext hA hb;clear hb;refine gsc rfl (by rfl) (fun K hK=> ?_);go_simp;refine(HXl.out _).mono ?_;rintro e uX ⟨rfl,hb⟩;refine hK _ _ (x3x hb) ?_;clear hK K;replace hc:=hc.trans (hb.mono hc.size);replace hz:=znt hz hb.size;replace hA:=TB.ext hA hb;clear hb;refine gsc rfl (by rfl) (fun K hK=> ?_);go_simp;refine(HL2.out _ hc).mono ?_;rintro e uL1 ⟨pU,vU,rfl,htr,hwv,hb⟩;refine hK _ _ (x3x hb) ?_;clear hK K;replace hc:=hc.trans (hb.mono hc.size);replace hz:=znt hz hb.size;replace hA:=TB.ext hA hb;clear hb;iterate 4 (refine gsr (v:= ?_) rfl (by rfl) ?_ ?_;rotate_left;(intro w' hw';go_simp;with_reducible rfl);simp only[Act.put,zs0,zs1,zs2])
        have c0:=hA.c0;have c1:=hA.c1;have f0:=hA.fz 0;have f1:=hA.fz 1;have hfin:=zh (LR.put (n:=n2) hA hG htr hwv hc);have HT:Hid (Zx (fun i=>u0.heap.size≤i) uL1 ((uL1.setCell ⟨uB.heap.size,0,none⟩ (.pointer pU)).setCell ⟨uB.heap.size,1,none⟩ (.int .i64 (n2:Nat)))):=(Yv _ _ _ _).mono (fun i hi _=>by subst hi;exact hG0);refine gsc rfl (by rfl) (fun K hK=> ?_);go_simp;refine hK _ _ HT.out ?_;clear hK K c0 c1 f0 f1;iterate 2 (refine gsr (v:= ?_) rfl (by rfl) ?_ ?_;rotate_left;(intro w' hw';go_simp;with_reducible rfl);simp only[Act.put,zs0,zs1,zs2])
        refine Zy ?_;go_wp2;go_meet;exact⟨_,_,_,rfl,rfl,rfl,hfin⟩
      ·obtain⟨uA,hA0,hA,hb⟩:=Z1 u0 TT #[.pointer none,.int .i64 0];have HA0:=zh hA0;have hG:wc.heap.size≤u0.heap.size:=hc.size;have hG0:u0.heap.size≤u0.heap.size:=hz;replace hA:TB uA u0.heap.size none 0:=hA;clear hA0;refine gsc rfl (by rfl) (fun K hK=> ?_);go_simp;rw[HA0.out];refine hK _ _ (x3x hb) ?_;clear hK K;clear HA0;try simp only[Act.put,zs0,zs1,zs2]
       replace hc:=hc.trans (hb.mono hc.size);replace hz:=znt hz hb.size;clear hb;refine gsc rfl (by rfl) (fun K hK=> ?_);go_simp;refine(Ty 1024 _ (by omega)).mono ?_;rintro e uB ⟨rfl,hb⟩;refine hK _ _ (x3x hb) ?_;clear hK K;replace hc:=hc.trans (hb.mono hc.size);replace hz:=znt hz hb.size;replace hA:=TB.ext hA hb;clear hb;refine gsc rfl (by rfl) (fun K hK=> ?_);go_simp;refine(CU.out _ (HU.out.tr.ext hc)).mono ?_;rintro e uU ⟨rfl,hb⟩;refine hK _ _ (x3x hb) ?_;clear hK K;replace hc:=hc.trans (hb.mono hc.size);replace hz:=znt hz hb.size;replace hA:=TB.ext hA hb;clear hb;refine gsc rfl (by rfl) (fun K hK=> ?_);go_simp;refine(HXl.out _).mono ?_;rintro e uX ⟨rfl,hb⟩;refine hK _ _ (x3x hb) ?_;clear hK K;replace hc:=hc.trans (hb.mono hc.size);replace hz:=znt hz hb.size;replace hA:=TB.ext hA hb;clear hb;refine gsc rfl (by rfl) (fun K hK=> ?_);go_simp;refine(HL2.out _ hc).mono ?_;rintro e uL1 ⟨pU,vU,rfl,htr,hwv,hb⟩;refine hK _ _ (x3x hb) ?_;clear hK K;replace hc:=hc.trans (hb.mono hc.size);replace hz:=znt hz hb.size;replace hA:=TB.ext hA hb;clear hb;iterate 4 (refine gsr (v:= ?_) rfl (by rfl) ?_ ?_;rotate_left;(intro w' hw';go_simp;with_reducible rfl);simp only[Act.put,zs0,zs1,zs2])
       have c0:=hA.c0;have c1:=hA.c1;have f0:=hA.fz 0;have f1:=hA.fz 1;have hfin:=zh (LR.put (n:=n2) hA hG htr hwv hc);have HT:Hid (Zx (fun i=>u0.heap.size≤i) uL1 ((uL1.setCell ⟨u0.heap.size,0,none⟩ (.pointer pU)).setCell ⟨u0.heap.size,1,none⟩ (.int .i64 (n2:Nat)))):=(Yv _ _ _ _).mono (fun i hi _=>by subst hi;exact hG0);refine gsc rfl (by rfl) (fun K hK=> ?_);go_simp;refine hK _ _ HT.out ?_;clear hK K c0 c1 f0 f1;iterate 2 (refine gsr (v:= ?_) rfl (by rfl) ?_ ?_;rotate_left;(intro w' hw';go_simp;with_reducible rfl);simp only[Act.put,zs0,zs1,zs2])
       refine Zy ?_;go_wp2;go_meet;exact⟨_,_,_,rfl,rfl,rfl,hfin⟩
     case rest=>
      obtain⟨gV,pV,vV,rfl,rfl,rfl,hU⟩:=hcut;have hb:=hU.out.b;have HV:=hU;clear hU;replace GQ:=zh (GQ.out.ext hb);replace HU:=zh (HU.out.ext hb);replace HPV:=zh (HPV.out.ext hb);replace HE:=zh (HE.out.ext2 hb);replace K15:=zh (TB.ext K15.out hb);replace HTN:=zh (HTN.out.ext hb);replace HEM:=zh (HEM.out.ext2 hb);clear hb;clear HL2
      rcases HCs.out with hE|⟨hE,hn2,hH2,hvs,hw2,hc⟩
      ·as_aux_lemma=>
       subst hE;have CE:=z8f (.iface 110 (.int .i64 8)) 8 wc (z8h 8) GQ.out.g;go_wp2_with fail;refine(CE).mono ?_;rintro e v10 ⟨rfl,hb⟩;replace GQ:=zh (GQ.out.ext hb);replace HU:=zh (HU.out.ext hb);replace HPV:=zh (HPV.out.ext hb);replace HE:=zh (HE.out.ext2 hb);replace K15:=zh (TB.ext K15.out hb);replace HTN:=zh (HTN.out.ext hb);replace HEM:=zh (HEM.out.ext2 hb);replace HV:=zh (HV.out.ext hb);clear hb;go_wp2_with fail;refine(z1n v10 GQ.out.g GQ.out.wo GQ.out.ta).mono ?_;rintro e v11 ⟨rfl,hb⟩;replace GQ:=zh (GQ.out.ext hb);replace HU:=zh (HU.out.ext hb);replace HPV:=zh (HPV.out.ext hb);replace HE:=zh (HE.out.ext2 hb);replace K15:=zh (TB.ext K15.out hb);replace HTN:=zh (HTN.out.ext hb);replace HEM:=zh (HEM.out.ext2 hb);replace HV:=zh (HV.out.ext hb);clear hb;go_wp2;go_ret;exact⟨rfl,GQ.out.b⟩
      ·as_aux_lemma=>
       subst hE hn2 hH2;clear HCs;obtain⟨PS,hPS⟩:∃PS,Sk F2 tn=PS:=⟨_,rfl⟩
       have hnot:∀x,x∈PS→x∉uL us:=fun x hx h=>by
        rw[←hPS] at hx;have h1:=(V4 hx).1;rw[←HF2.out] at h1;unfold Qw at h1;simp[h] at h1
       have hv9:∀m,m∈uL us→F2 m=false:=fun m hm=>by
        rw[←HF2.out];unfold Qw;simp[hm]
       have hvl:=HM.out.1.laid hc Hlen.out;have hul:=HLi.out.stays hc hv9;rw[hvs,hw2] at hvl;rw[hw2] at hul;have hpl:PS.length=Z2 tn:=by rw[←hPS,Ow hc]
       have hwl2:w2.length=Z2 tn:=by rw[←hw2,I3]
       obtain⟨N3,hN3⟩:∃N,Z2 tn=N:=⟨_,rfl⟩
       rw[hN3] at hpl hwl2;have hbare2:=G9 tn (Sk F2 tn);rw[hvs,HM.out.2.1] at hbare2;have Hpg:Hid (∀k,(w2.getD k (0,[])).1=na PS k):=fun k=>by rw[←hw2,←hPS];exact x3p hc k
       have Hin2:Hid (∀x∈w2,2≤x.1∧x.1<P1.length):=fun x hx=>by
        have h1:x.1∈Sk F2 tn:=by rw[←Mj hc,hw2];exact List.mem_map_of_mem hx
        exact⟨(V4 h1).2.1,by rw[Hlen.out];exact(V4 h1).2.2.1⟩
       have Hno:Hid (∀k,k<N3→inB (Qw (fun _=>false) (uL us)) ((na PS k:Nat):Int)=false):=fun k hk=>by
        have h1:=Ox (ps:=PS) (i:=k) (by omega);have h2:=hnot _ h1;rw[←hPS] at h1 h2⊢
        rw[z17 _ _ (V4 h1).2.2.1];unfold Qw;simp[h2]
       have Hyes:Hid (∀k,k<N3→inB (Qw (fun _=>false) (uL vs)) ((na PS k:Nat):Int)=true):=fun k hk=>by
        have h1:=Ox (ps:=PS) (i:=k) (by omega);rw[←hPS] at h1;have h2:na (Sk F2 tn) k∈uL vs:=by rw[←hvs,z3u hc];exact .inr h1
        rw[←hPS];exact z57 h2 (V4 h1).2.2.1
       obtain⟨P2,hP2⟩:∃P,Dy P1 w2=P:=⟨_,rfl⟩
       have hlen3:P2.length=1024:=by rw[←hP2,ZN,Hlen.out]
       rw[hP2] at hvl hul;have HP2:=zh (zai hP2 hlen3);have HLv:=zh hvl;have HLu:=zh hul;have Hw2:=zh (zai hwl2 (zai hN3 hbare2));have hN9:N3≤900:=by have:=Hnd2.out;omega
       clear hc hPS hvs hw2 hnot hv9 hvl hul hpl hwl2 hN3 hbare2 hP2 hlen3;obtain⟨xa,xc,rfl,hxa,_⟩:=HV.out.wv.slice;have HXA:=zh hxa;clear hxa;go_wp2_with fail;refine((x2v _ _ P1 w2 _ HPV.out (by rw[Hlen.out];omega) (by rw[Hlen.out];omega) HV.out.wv (by rw[Hw2.out.1];omega) Hin2.out)).mono ?_;rintro e v10 ⟨u20,rfl,hq20,hb⟩;replace GQ:=zh (GQ.out.ext hb);replace HU:=zh (HU.out.ext hb);replace HPV:=zh (HPV.out.ext hb);replace HE:=zh (HE.out.ext2 hb);replace K15:=zh (TB.ext K15.out hb);replace HTN:=zh (HTN.out.ext hb);replace HEM:=zh (HEM.out.ext2 hb);replace HV:=zh (HV.out.ext hb);clear hb;rw[HP2.out.1] at hq20;have HPW:=zh hq20;obtain⟨qa,qc,rfl,_,hqa⟩:=hq20.arg;obtain⟨qg,qo,rfl⟩:=hqa (by rw[HP2.out.2];omega);rw[HP2.out.2] at HPW⊢
       rw[Hw2.out.1] at HXA⊢
       clear hqa;have CN3:=zh (fun w ht=>ZR _ pn M tn Hn N3 w ht HM.out.1 Hw2.out.2.1 (by omega));have c0:=TB.c0 K15.out;have c1:=TB.c1 K15.out;go_wp2_with fail;refine(CN3.out _ HTN.out).mono ?_;rintro e v11 ⟨rfl,hb⟩;replace GQ:=zh (GQ.out.ext hb);replace HU:=zh (HU.out.ext hb);replace HPV:=zh (HPV.out.ext hb);replace HE:=zh (HE.out.ext2 hb);replace K15:=zh (TB.ext K15.out hb);replace HTN:=zh (HTN.out.ext hb);replace HEM:=zh (HEM.out.ext2 hb);replace HV:=zh (HV.out.ext hb);replace HPW:=zh (HPW.out.ext hb);clear hb;clear c0 c1 CN3 CN;have CUv:=zh (fun w ht=>ZS _ pV M vs Hn w ht HLv.out.mix);go_wp2_with fail
       go_loopw [27] (fun iv wr=>∃k:Nat,iv=.int .i64 k∧k≤N3∧Hid (zB v11 wr)) (fun iv _=>N3-(intOf iv).toNat)
       case atStart=>exact⟨0,rfl,by omega,zbr _ _⟩
       case round=>
        obtain⟨k,rfl,hk,HI⟩:=hrel
        by_cases hlt:k<N3
        ·as_aux_lemma=>
         obtain⟨xg,xo,rfl⟩:=HXA.out (by omega);have hkl:k<w2.length:=by rw[Hw2.out.1];exact hlt
         have h1:=Hno.out k hlt;have h2:=Hyes.out k hlt;have h4:=Hpg.out k;obtain⟨q,hq⟩:∃q,na PS k=q:=⟨_,rfl⟩
         rw[hq] at h1 h2 h4;have HH:=zh (zai h1 h2);have Hcell:Hid (∀w',zB v11 w'→w'.cell? ⟨xg,xo+k*2,none⟩=some (.int .i64 (q:Nat))):=fun w' hb=>by
          have:=WV.cell (HV.out.wv.ext hb) hkl;rw[h4] at this;exact this
         have i4:(0:Int)≤(k:Int):=by omega
         have i5:(k:Int)<(N3:Int):=by omega
         have z0:IntKind.i64.wrap (k:Int)=(k:Int):=by rw[IntKind.wrap_i64];omega
         clear h1 h2 h4 hq hkl
         go_upto_region 34 with fail
         refine rgr [(0,true),(2,true),(3,true),(4,true),(5,true),(6,true),(1,false),(7,false),(8,true),(9,true),(11,true),(12,true),(13,true),(14,true),(15,true),(10,false),(16,false),(17,true),(18,true)] (h:= ?_);obtain⟨ud,hud,hbd⟩:∃u,wr.drew=u∧zB wr u:=⟨_,rfl,(zbr _ _).drew⟩
         rw[hud];have hB1:=HI.out.trans (hbd.mono HI.out.size);have HB1:=zh hB1;have hU1:=HU.out.ext hB1;have qc0:=fun w' (h:Ext ud w')=>Hcell.out w' (HB1.out.trans (h.mono HB1.out.size))
         have qa0:=fun w' (h:Ext ud w')=>(TB.ext hU1.t h).c0
         have qa1:=fun w' (h:Ext ud w')=>(TB.ext hU1.t h).c1
         have HUt:=zh hU1.tr;clear hud hbd hB1 HI hU1;iterate 6 (refine grr (v:= ?_) rfl (by rfl) ?_ ?_;rotate_left;(intro w' hw';go_simp;with_reducible rfl);simp only[Act.put,zs0,zs1,zs2])
         clear qc0 qa0 qa1;refine grc rfl (by rfl) (fun K hK=> ?_);go_simp;refine(CU.out ud HUt.out).mono ?_;rintro e x1 ⟨rfl,hb⟩;refine hK _ _ hb ?_;clear hK K HUt;replace HB1:=zh (HB1.out.trans (hb.mono HB1.out.size));clear hb;refine grc rfl (by rfl) (fun K hK=> ?_);go_simp;refine(zT (Qw (fun _=>false) (uL us)) (q:Int) x1).mono ?_;rintro e x2 ⟨rfl,hb⟩;refine hK _ _ hb ?_;clear hK K;rw[HH.out.1];replace HB1:=zh (HB1.out.trans (hb.mono HB1.out.size));clear hb;have hV1:=HV.out.ext HB1.out;have qc0:=fun w' (h:Ext x2 w')=>Hcell.out w' (HB1.out.trans (h.mono HB1.out.size))
         have qa0:=fun w' (h:Ext x2 w')=>(TB.ext hV1.t h).c0
         have qa1:=fun w' (h:Ext x2 w')=>(TB.ext hV1.t h).c1
         have HVt:=zh hV1.tr;clear hV1;iterate 7 (refine grr (v:= ?_) rfl (by rfl) ?_ ?_;rotate_left;(intro w' hw';go_simp;with_reducible rfl);simp only[Act.put,zs0,zs1,zs2])
         clear qc0 qa0 qa1;refine grc rfl (by rfl) (fun K hK=> ?_);go_simp;refine(CUv.out x2 HVt.out).mono ?_;rintro e x3 ⟨rfl,hb⟩;refine hK _ _ hb ?_;clear hK K HVt;replace HB1:=zh (HB1.out.trans (hb.mono HB1.out.size));clear hb;refine grc rfl (by rfl) (fun K hK=> ?_);go_simp;refine(zT (Qw (fun _=>false) (uL vs)) (q:Int) x3).mono ?_;rintro e x4 ⟨rfl,hb⟩;refine hK _ _ hb ?_;clear hK K;rw[HH.out.2];replace HB1:=zh (HB1.out.trans (hb.mono HB1.out.size));clear hb;iterate 2 (refine grr (v:= ?_) rfl (by rfl) ?_ ?_;rotate_left;(intro w' hw';go_simp;with_reducible rfl);simp only[Act.put,zs0,zs1,zs2])
         refine Yq ?_;go_wp2_with fail
         go_roundw
         case rel=>exact⟨k+1,by go_num,by omega,HB1⟩
         case measure=>simp[intOf];omega
        ·as_aux_lemma=>
         obtain rfl:k=N3:=by omega
         have i5:¬(k:Int)<(k:Int):=by omega
         have hb:=HI.out;replace GQ:=zh (GQ.out.ext hb);replace HU:=zh (HU.out.ext hb);replace HE:=zh (HE.out.ext2 hb);replace HEM:=zh (HEM.out.ext2 hb);replace HV:=zh (HV.out.ext hb);replace HPW:=zh (HPW.out.ext hb);clear hb HI;obtain⟨o1,ho1,ho2⟩:=z1o HP2.out.2 HU.out.tr (by rw[←Uk,Hbe.out,HLn.out];have:=HLN.out;omega) HLu.out;obtain⟨o3,ho3,ho4⟩:=z1o HP2.out.2 HV.out.tr (by rw[←Uk,Hw2.out.2.2,HMl.out];omega) HLv.out;rw[Hbe.out] at ho2;rw[Hw2.out.2.2] at ho4;have CR:=zh (fun w ht=>Fu pU L us H w ht);have CRv:=zh (fun w ht=>Fu pV M vs Hn w ht);obtain⟨RT,hRT⟩:∃RT,(us.headD (.leaf 0 [])).pg=RT:=⟨_,rfl⟩
         obtain⟨RV,hRV⟩:∃RT,(vs.headD (.leaf 0 [])).pg=RT:=⟨_,rfl⟩
         rw[hRT] at ho1 CR;rw[hRV] at ho3 CRv;have HO:=zh (zai ho1 (zai ho2 (zai ho3 ho4)));have hL9:L≤99:=by have:=HLN.out;omega
         clear ho1 ho2 ho3 ho4 hRT hRV;have c0:=TB.c0 HU.out.t;have c1:=TB.c1 HU.out.t;go_wp2_with fail;refine(CR.out _ HU.out.tr).mono ?_;rintro e v12 ⟨rfl,hb⟩;replace GQ:=zh (GQ.out.ext hb);replace HU:=zh (HU.out.ext hb);replace HE:=zh (HE.out.ext2 hb);replace HEM:=zh (HEM.out.ext2 hb);replace HV:=zh (HV.out.ext hb);replace HPW:=zh (HPW.out.ext hb);clear hb;clear c0 c1;go_wp2_with fail;refine((x2w _ P2 RT L _ o1 HPW.out (by rw[HP2.out.2];omega) (by omega) HO.out.1 (by rw[HO.out.2.1];exact HLn.out))).mono ?_;rintro e v13 ⟨LV,uaA,unA,ucA,rfl,hev,hb⟩;replace GQ:=zh (GQ.out.ext hb);replace HU:=zh (HU.out.ext hb);replace HE:=zh (HE.out.ext2 hb);replace HEM:=zh (HEM.out.ext2 hb);replace HV:=zh (HV.out.ext hb);replace HPW:=zh (HPW.out.ext hb);clear hb;rw[HO.out.2.1] at hev;obtain⟨oaA,ocA,rfl,hoa,_⟩:=hev;rw[HLn.out];have HOEA:=zh hoa;clear hoa;obtain⟨ODA,hOD⟩:∃OD,o1.d=OD:=⟨_,rfl⟩
         rw[hOD];clear hOD;obtain⟨yA,hy1,hyo,hb⟩:=Z1 v13 ROT #[.slice oaA L ocA,.slice uaA unA ucA,.int .i64 ODA,.bool false];replace GQ:=zh (GQ.out.ext hb);replace HU:=zh (HU.out.ext hb);replace HE:=zh (HE.out.ext2 hb);replace HEM:=zh (HEM.out.ext2 hb);replace HV:=zh (HV.out.ext hb);replace HPW:=zh (HPW.out.ext hb);replace HOEA:=zh (HOEA.out.ext2 hb);have HYA:=zh hy1;have HYOA:Hid (Blk yA v13.heap.size ROT #[.slice oaA L ocA,.slice uaA unA ucA,.int .i64 ODA,.bool false]):=hyo;clear hy1 hyo hb
         go_upto_region 37 with fail
         rw[HYA.out];have c0:=TB.c0 HV.out.t;have c1:=TB.c1 HV.out.t;go_wp2_with fail;refine(CRv.out _ HV.out.tr).mono ?_;rintro e v14 ⟨rfl,hb⟩;replace GQ:=zh (GQ.out.ext hb);replace HU:=zh (HU.out.ext hb);replace HE:=zh (HE.out.ext2 hb);replace HEM:=zh (HEM.out.ext2 hb);replace HV:=zh (HV.out.ext hb);replace HPW:=zh (HPW.out.ext hb);replace HOEA:=zh (HOEA.out.ext2 hb);replace HYOA:=zh (HYOA.out.ext hb);clear hb;clear c0 c1;go_wp2_with fail;refine((x2w _ P2 RV M _ o3 HPW.out (by rw[HP2.out.2];omega) (by omega) HO.out.2.2.1 (by rw[HO.out.2.2.2];exact HMl.out))).mono ?_;rintro e v15 ⟨LV,uaB,unB,ucB,rfl,hev,hb⟩;replace GQ:=zh (GQ.out.ext hb);replace HU:=zh (HU.out.ext hb);replace HE:=zh (HE.out.ext2 hb);replace HEM:=zh (HEM.out.ext2 hb);replace HV:=zh (HV.out.ext hb);replace HPW:=zh (HPW.out.ext hb);replace HOEA:=zh (HOEA.out.ext2 hb);replace HYOA:=zh (HYOA.out.ext hb);clear hb;rw[HO.out.2.2.2] at hev;obtain⟨oaB,ocB,rfl,hoa,_⟩:=hev;rw[HMl.out];have HOEB:=zh hoa;clear hoa;obtain⟨ODB,hOD⟩:∃OD,o3.d=OD:=⟨_,rfl⟩
         rw[hOD];clear hOD;obtain⟨yB,hy1,hyo,hb⟩:=Z1 v15 ROT #[.slice oaB M ocB,.slice uaB unB ucB,.int .i64 ODB,.bool false];replace GQ:=zh (GQ.out.ext hb);replace HU:=zh (HU.out.ext hb);replace HE:=zh (HE.out.ext2 hb);replace HEM:=zh (HEM.out.ext2 hb);replace HV:=zh (HV.out.ext hb);replace HPW:=zh (HPW.out.ext hb);replace HOEA:=zh (HOEA.out.ext2 hb);replace HYOA:=zh (HYOA.out.ext hb);replace HOEB:=zh (HOEB.out.ext2 hb);have HYB:=zh hy1;have HYOB:Hid (Blk yB v15.heap.size ROT #[.slice oaB M ocB,.slice uaB unB ucB,.int .i64 ODB,.bool false]):=hyo;clear hy1 hyo hb
         go_upto_region 38 with fail
         rw[HYB.out];have CAll:=zh (fun w (ht:Y6 w pU us H)=>y2g pU es H w (Hbe.out▸ht.tp) (by rw[HLn.out];omega));rw[HLn.out] at CAll;have CAlv:=zh (fun w (ht:Y6 w pV vs Hn)=>y2g pV ec Hn w (Hw2.out.2.2▸ht.tp) (by rw[HMl.out];omega));rw[HMl.out] at CAlv;refine rgr [(0,true),(1,true),(2,true),(3,true),(4,true),(5,true),(6,true),(7,true),(9,true),(10,true),(8,false),(11,false),(12,true),(13,true),(14,true),(16,true),(17,true),(15,false),(18,false),(19,true),(20,true),(21,true),(23,true),(22,false),(24,false),(25,true),(26,true),(27,false),(28,true),(29,true)] (h:= ?_);obtain⟨ud,hud,hb⟩:∃u,yB.drew=u∧zB yB u:=⟨_,rfl,(zbr _ _).drew⟩
         rw[hud];replace GQ:=zh (GQ.out.ext hb);replace HU:=zh (HU.out.ext hb);replace HE:=zh (HE.out.ext2 hb);replace HEM:=zh (HEM.out.ext2 hb);replace HV:=zh (HV.out.ext hb);replace HPW:=zh (HPW.out.ext hb);replace HOEA:=zh (HOEA.out.ext2 hb);replace HYOA:=zh (HYOA.out.ext hb);replace HOEB:=zh (HOEB.out.ext2 hb);replace HYOB:=zh (HYOB.out.ext hb);clear hb hud;have qa0:=fun w' (h:Ext ud w')=>(TB.ext (HU.out.t) h).c0
         have qa1:=fun w' (h:Ext ud w')=>(TB.ext (HU.out.t) h).c1
         have qc:=fun w' (h:Ext ud w')=>(by have:=(HYOA.out.ext h).cell 0;exact this:w'.cell? ⟨v13.heap.size,0,none⟩=some (.slice oaA L ocA))
         iterate 10 (refine grr (v:= ?_) rfl (by rfl) ?_ ?_;rotate_left;(intro w' hw';go_simp;with_reducible rfl);simp only[Act.put,zs0,zs1,zs2])
         clear qa0 qa1 qc;refine grc rfl (by rfl) (fun K hK=> ?_);go_simp;refine(CAll.out ud HU.out.tr).mono ?_;rintro e v16 ⟨vA,rfl,hvA,hb⟩;refine hK _ _ hb ?_;clear hK K;replace GQ:=zh (GQ.out.ext hb);replace HU:=zh (HU.out.ext hb);replace HE:=zh (HE.out.ext2 hb);replace HEM:=zh (HEM.out.ext2 hb);replace HV:=zh (HV.out.ext hb);replace HPW:=zh (HPW.out.ext hb);replace HOEA:=zh (HOEA.out.ext2 hb);replace HYOA:=zh (HYOA.out.ext hb);replace HOEB:=zh (HOEB.out.ext2 hb);replace HYOB:=zh (HYOB.out.ext hb);clear hb;try simp only[Act.put,zs0,zs1,zs2]
         obtain⟨aX1,cX1,rfl,hsA,_⟩:=hvA;rw[HLn.out];have HSX1:=zh hsA;clear hsA;have CAre:=z2s aX1 oaA L cX1 ocA es v16 HLn.out HSX1.out HOEA.out (by omega);refine grc rfl (by rfl) (fun K hK=> ?_);go_simp;refine(CAre).mono ?_;rintro e v17 ⟨rfl,hb⟩;refine hK _ _ hb ?_;clear hK K;replace GQ:=zh (GQ.out.ext hb);replace HU:=zh (HU.out.ext hb);replace HE:=zh (HE.out.ext2 hb);replace HEM:=zh (HEM.out.ext2 hb);replace HV:=zh (HV.out.ext hb);replace HPW:=zh (HPW.out.ext hb);replace HOEA:=zh (HOEA.out.ext2 hb);replace HYOA:=zh (HYOA.out.ext hb);replace HOEB:=zh (HOEB.out.ext2 hb);replace HYOB:=zh (HYOB.out.ext hb);clear hb;try simp only[Act.put,zs0,zs1,zs2]
         clear HSX1;have qa0:=fun w' (h:Ext v17 w')=>(TB.ext (HV.out.t) h).c0
         have qa1:=fun w' (h:Ext v17 w')=>(TB.ext (HV.out.t) h).c1
         have qc:=fun w' (h:Ext v17 w')=>(by have:=(HYOB.out.ext h).cell 0;exact this:w'.cell? ⟨v15.heap.size,0,none⟩=some (.slice oaB M ocB))
         iterate 5 (refine grr (v:= ?_) rfl (by rfl) ?_ ?_;rotate_left;(intro w' hw';go_simp;with_reducible rfl);simp only[Act.put,zs0,zs1,zs2])
         clear qa0 qa1 qc;refine grc rfl (by rfl) (fun K hK=> ?_);go_simp;refine(CAlv.out v17 HV.out.tr).mono ?_;rintro e v18 ⟨vA,rfl,hvA,hb⟩;refine hK _ _ hb ?_;clear hK K;replace GQ:=zh (GQ.out.ext hb);replace HU:=zh (HU.out.ext hb);replace HE:=zh (HE.out.ext2 hb);replace HEM:=zh (HEM.out.ext2 hb);replace HV:=zh (HV.out.ext hb);replace HPW:=zh (HPW.out.ext hb);replace HOEA:=zh (HOEA.out.ext2 hb);replace HYOA:=zh (HYOA.out.ext hb);replace HOEB:=zh (HOEB.out.ext2 hb);replace HYOB:=zh (HYOB.out.ext hb);clear hb;try simp only[Act.put,zs0,zs1,zs2]
         obtain⟨aX2,cX2,rfl,hsA,_⟩:=hvA;rw[HMl.out];have HSX2:=zh hsA;clear hsA;have CAre:=z2s aX2 oaB M cX2 ocB ec v18 HMl.out HSX2.out HOEB.out (by omega);refine grc rfl (by rfl) (fun K hK=> ?_);go_simp;refine(CAre).mono ?_;rintro e v19 ⟨rfl,hb⟩;refine hK _ _ hb ?_;clear hK K;replace GQ:=zh (GQ.out.ext hb);replace HU:=zh (HU.out.ext hb);replace HE:=zh (HE.out.ext2 hb);replace HEM:=zh (HEM.out.ext2 hb);replace HV:=zh (HV.out.ext hb);replace HPW:=zh (HPW.out.ext hb);replace HOEA:=zh (HOEA.out.ext2 hb);replace HYOA:=zh (HYOA.out.ext hb);replace HOEB:=zh (HOEB.out.ext2 hb);replace HYOB:=zh (HYOB.out.ext hb);clear hb;try simp only[Act.put,zs0,zs1,zs2]
         clear HSX2;have qa0:=fun w' (h:Ext v19 w')=>(TB.ext (HV.out.t) h).c0
         have qa1:=fun w' (h:Ext v19 w')=>(TB.ext (HV.out.t) h).c1
         iterate 4 (refine grr (v:= ?_) rfl (by rfl) ?_ ?_;rotate_left;(intro w' hw';go_simp;with_reducible rfl);simp only[Act.put,zs0,zs1,zs2])
         clear qa0 qa1;refine grc rfl (by rfl) (fun K hK=> ?_);go_simp;refine(CAlv.out v19 HV.out.tr).mono ?_;rintro e v20 ⟨vA,rfl,hvA,hb⟩;refine hK _ _ hb ?_;clear hK K;replace GQ:=zh (GQ.out.ext hb);replace HU:=zh (HU.out.ext hb);replace HE:=zh (HE.out.ext2 hb);replace HEM:=zh (HEM.out.ext2 hb);replace HV:=zh (HV.out.ext hb);replace HPW:=zh (HPW.out.ext hb);replace HOEA:=zh (HOEA.out.ext2 hb);replace HYOA:=zh (HYOA.out.ext hb);replace HOEB:=zh (HOEB.out.ext2 hb);replace HYOB:=zh (HYOB.out.ext hb);clear hb;try simp only[Act.put,zs0,zs1,zs2]
         obtain⟨aX3,cX3,rfl,hsA,_⟩:=hvA;rw[HMl.out];have HSX3:=zh hsA;clear hsA;have CAre:=z2s aX3 ma M cX3 mc2 ec v20 HMl.out HSX3.out HEM.out (by omega);refine grc rfl (by rfl) (fun K hK=> ?_);go_simp;refine(CAre).mono ?_;rintro e v21 ⟨rfl,hb⟩;refine hK _ _ hb ?_;clear hK K;replace GQ:=zh (GQ.out.ext hb);replace HU:=zh (HU.out.ext hb);replace HE:=zh (HE.out.ext2 hb);replace HEM:=zh (HEM.out.ext2 hb);replace HV:=zh (HV.out.ext hb);replace HPW:=zh (HPW.out.ext hb);replace HOEA:=zh (HOEA.out.ext2 hb);replace HYOA:=zh (HYOA.out.ext hb);replace HOEB:=zh (HOEB.out.ext2 hb);replace HYOB:=zh (HYOB.out.ext hb);clear hb;try simp only[Act.put,zs0,zs1,zs2]
         clear HSX3;iterate 2 (refine grr (v:= ?_) rfl (by rfl) ?_ ?_;rotate_left;(intro w' hw';go_simp;with_reducible rfl);simp only[Act.put,zs0,zs1,zs2])
         refine grc rfl (by rfl) (fun K hK=> ?_);go_simp;refine(z1n v21 GQ.out.g GQ.out.wo GQ.out.ta).mono ?_;rintro e v22 ⟨rfl,hb⟩;refine hK _ _ hb ?_;clear hK K;replace GQ:=zh (GQ.out.ext hb);replace HU:=zh (HU.out.ext hb);replace HE:=zh (HE.out.ext2 hb);replace HEM:=zh (HEM.out.ext2 hb);replace HV:=zh (HV.out.ext hb);replace HPW:=zh (HPW.out.ext hb);replace HOEA:=zh (HOEA.out.ext2 hb);replace HYOA:=zh (HYOA.out.ext hb);replace HOEB:=zh (HOEB.out.ext2 hb);replace HYOB:=zh (HYOB.out.ext hb);clear hb;try simp only[Act.put,zs0,zs1,zs2]
         iterate 2 (refine grr (v:= ?_) rfl (by rfl) ?_ ?_;rotate_left;(intro w' hw';go_simp;with_reducible rfl);simp only[Act.put,zs0,zs1,zs2])
         refine Yq ?_;go_wp2;go_ret;exact⟨rfl,GQ.out.b⟩
end Go.Proofs.YtdgladhfibfdlaaGreatDoor
