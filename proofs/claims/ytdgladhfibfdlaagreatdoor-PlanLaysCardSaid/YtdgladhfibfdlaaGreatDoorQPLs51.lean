/-
  Steps.
-/
import Derived.Test.YtdgladhfibfdlaaGreatDoorQPLs50
namespace Go.Proofs.YtdgladhfibfdlaaGreatDoor
open Go Go.RowKit
theorem RoR.at {w:World}{g:Nat}{l:List Nat}:∀{gs:List Nat} {P:List (List Nat)} {i:Nat},RoR w gs P→gs[i]? =some g→P[i]? =some l→Row w g 5 l∧l.length=512∧B8 l
 | _::_,_::_,0,h,h1,h2=>by
  simp only[List.getElem?_cons_zero,Option.some.injEq] at h1 h2;subst h1 h2;exact h.1
 | _::_,_::_,k+1,h,h1,h2=>RoR.at (i:=k) h.2 (by simpa using h1) (by simpa using h2)
 | [],[],_,_,h1,_=>by simp at h1
 | [],_::_,_,h,_,_=>h.elim
 | _::_,[],_,h,_,_=>h.elim
def PV (w:World)(v:Value)(P:List (List Nat)):Prop:=∃gs,EV rowE w v gs∧RoR w gs P
theorem PV.ext {w w':World}{v:Value}{P:List (List Nat)}(h:PV w v P)(hb:Below w.heap.size w w'):PV w' v P:=by
 obtain⟨gs,h1,h2⟩:=h;exact⟨gs,h1.ext hb,h2.below hb (zlr _)⟩
theorem PV.arg {w:World}{v:Value}{P:List (List Nat)}(h:PV w v P):∃a c,v=.slice a P.length c∧PgIn w a P∧(0<P.length→∃g o,a=some ⟨g,o,none⟩):=by
 obtain⟨gs,⟨a,c,rfl,hs,_⟩,hr⟩:=h;have hl:=hr.len;refine⟨a,c,by rw[hl],fun i hi=> ?_,fun h0=> ?_⟩
 ·obtain⟨g,o,e,hc⟩:=hs.at (by omega);have h1:gs[i]? =some (gs[i]'(by omega)):=List.getElem?_eq_getElem (by omega);have h2:P[i]? =some (P[i]'hi):=List.getElem?_eq_getElem hi;obtain⟨h3,h4,h5⟩:=hr.at h1 h2;have h6:=hc (i*1) (.slice (some ⟨gs[i]'(by omega),0,none⟩) 512 512) (by
   have h:=rowE.row_at gs i 0 _ h1 (by decide);exact h)
  rw[Nat.mul_one] at h6;have e3:P.getD i []=P[i]'hi:=by rw[List.getD_eq_getElem?_getD,h2];rfl
  exact⟨g,o,_,e,h6,by rw[e3];exact⟨⟨_,512,by rw[h4],y1q h3,by omega,by decide⟩,h5⟩⟩
 ·obtain⟨g,o,e,_⟩:=hs.at (by omega);exact⟨g,o,e⟩
theorem q5z (n:Nat)(w:World)(hn:n≤2000):Calls Tryz.prog 23 #[.int .i64 n] w fun e w'=>∃u,e=.returned u∧PV w' u (List.replicate n (List.replicate 512 0))∧Below w.heap.size w w':=by
 refine(x1o n w hn).mono ?_;rintro e w' ⟨u,gs,rfl,h1,h2,h3⟩;have hl:=h2.len;rw[List.length_replicate] at hl;subst hl;exact⟨u,rfl,⟨gs,z13 h1,h2⟩,h3⟩
theorem laidC (u vw:Value)(P:List (List Nat))(ws:List PgW)(w:World)(hP:PV w u P)(hn:P.length≤2000)(h0:0<P.length)(hw:WV w vw ws)(hm:ws.length≤100000)(hp:∀x∈ws,2≤x.1∧x.1<P.length):
  Calls Tryz.prog 22 #[u,vw] w fun e w'=>∃u',e=.returned u'∧PV w' u' (layP P ws)∧Below w.heap.size w w':=by
 obtain⟨gs,⟨a,c,rfl,hs,_⟩,hr⟩:=hP;obtain⟨hs2,⟨b,d,rfl,hs3,_⟩,hr2⟩:=hw;have hl:=hr.len;have hl2:=hr2.len;refine(x9h a c gs P b d hs2 ws w gs.length hs2.length rfl (by omega) (by omega) hs hr rfl (by omega) hs3 hr2 (fun x hx=>⟨(hp x hx).1,by rw[hl];exact(hp x hx).2,hr2.b x hx⟩)).mono ?_;rintro e w' ⟨u',gs',rfl,h1,h2,h3⟩;have hl3:=h2.len;rw[y3d] at hl3;refine⟨u',rfl,⟨gs',z13 (T:=SBT) (by rw[hl3,←hl];exact h1),h2⟩,h3⟩
theorem readC (u:Value)(P:List (List Nat))(root:Int)(n:Nat)(w:World)(o:RO)(hP:PV w u P)(hl:P.length≤1024)(hn:n≤4096)(hR:y4p P root=some o)(hon:o.l.length=n):
  Calls Tryz.prog 25 #[u,.int .i64 root,.int .i64 n] w fun e w'=>∃(L:Value) (ua:Option Addr) (un uc:Nat),e=.returned (.tuple #[.agg #[L,.slice ua un uc,.int .i64 o.d,.bool false],.int .i64 0])∧EV entE w' L o.l∧Below w.heap.size w w':=by
 obtain⟨a,c,rfl,h1,_⟩:=hP.arg;exact x9t P a c root n w o h1 hl hn hR hon
theorem x63 {PL:List (List Nat)}(hlen:PL.length=1024){w:World}{p:Option Addr}{us:List Tr}{H:Nat}(ht:z09 w p us H)(hl:(esL us).length≤100000)(hL:LieI (pgF PL) us):
  ∃o,y4p PL (((us.headD (.leaf 0 [])).pg:Nat):Int)=some o∧o.l=bare (esL us):=by
 rcases z27 ht with ⟨_,rfl,_⟩|⟨b,h,t,v,_,rfl,_,hnv,hz,hz3,hne,_⟩
 ·exact⟨⟨[],fun _=>false,0⟩,by unfold y4p;rfl,rfl⟩
 ·obtain⟨W,_,hn,_⟩:=hnv.nd;rw[z14] at hl⊢
  obtain⟨o,h1,h2,_⟩:=x93 hlen (q6c h hn) hz hz3 hne hl hL;exact⟨o,h1,h2⟩
set_option maxRecDepth 100000 in
set_option maxHeartbeats 4000000 in
theorem q0a (n0 m0:Nat)(f:Nat→Bool)(w:World)(hn:n0<65536)(hm0:m0<65536)(hg:Hg w)(hwo:z1m w)(hT:z58 w):
  Calls Tryz.prog 3 #[.agg #[.int .u16 n0,.int .u16 m0],.agg (sc f)] w fun e w'=>e=.returned (.bool true)∧Below w.heap.size w w':=by
 obtain⟨W,hW,hA0,hb⟩:=z0m w 23 #[.int .u16 n0,.int .u16 m0];have HA0:=zh hA0;obtain⟨N,hN⟩:∃N,N=n0%120:=⟨_,rfl⟩
 have eN:(n0:Int).tmod 120=(N:Int):=by rw[Int.tmod_eq_emod_of_nonneg (by omega)];omega
 have hN9:N≤119:=by omega
 have HWw:=zh hW;have GQ:Hid (GF w W):=⟨hb,hg.below hb,hwo.below hb,hT.below hb⟩
 clear hW hb hg hN hwo hT hA0
 go_enter Tryz.func3,Tryz.ntmps3
 go_upto_region 1 with (refine z0e rfl TW (.tmp 1) rfl (sc f) (by rfl) ?_;intro g3 w1 hg3 hk3 hb3)
 rw[HWw.out] at hb3;replace GQ:=zh (GQ.out.ext hb3);have hA1:=(hb3.block _ (zag.1 HA0.out).1).trans HA0.out;have c0:w1.cell? ⟨w.heap.size,0,none⟩=some (.int .u16 n0):=by simp[World.cell?,hA1]
 have c1:w1.cell? ⟨w.heap.size,1,none⟩=some (.int .u16 m0):=by simp[World.cell?,hA1]
 have K3:=zh hk3;clear hg3 hk3 hb3 hA1;go_wp2_with fail;refine((x5y N m0 w1 (by omega) (by omega) GQ.out.g)).mono ?_;rintro e v1 ⟨p,H,es,l,rfl,hn,hl,hln,hb⟩;replace GQ:=zh (GQ.out.ext hb);replace K3:=zh (K3.out.ext hb);clear hb;obtain⟨ts,htr,hes,hu,hm,hnd,_⟩:=hn.lay;have hbare:=hn.tp;obtain⟨L,hL⟩:∃L,es.length=L:=⟨_,rfl⟩
 obtain⟨N0,hN0⟩:∃N0,z0j ts=N0:=⟨_,rfl⟩
 have hbe:bare (esL ts)=es:=by
  obtain⟨_,_,_,h3,_⟩:=hn;rw[hes];exact y2b (fun e he=>(h3 e he).1)
 rw[hL] at hnd hln⊢
 rw[hN0] at hnd;have HX:=zh (zai hes (zai hu (zai hm (zai hnd hbe))));have HLn:=zh hL;have HN0:=zh hN0;have HTR:=zh htr;have HEV:=zh hl;obtain⟨FF,hFF⟩:∃FF,z1h f ts=FF:=⟨_,rfl⟩
 have hfit:sc (fun m=>f m&& !belowR 2 m)=sc FF:=by
  rw[←hFF];refine sc_ext (fun m _=> ?_);unfold z1h addR belowR;rw[hu];rw[show decide ((m:Int)<2)=decide (m<2) from decide_eq_decide.2 (by omega)];simp
 have HFF:=zh (zai hFF hfit);clear c0 c1 hn hl htr hes hu hm hnd hL hbare hN0 hbe hFF hfit;obtain⟨v2,hv2,hT,hb⟩:=z0m v1 TT #[.pointer p,.int .i64 L];replace GQ:=zh (GQ.out.ext hb);replace K3:=zh (K3.out.ext hb);replace HTR:=zh (HTR.out.ext hb);replace HEV:=zh (HEV.out.ext hb);have K5:Hid (TB v2 v1.heap.size p L):=hT;have Hv2:=zh hv2;clear hv2 hT hb
 go_upto_region 4 with fail
 rw[Hv2.out]
 go_cut [8] (fun s8 wx=>∃g8:Nat,s8=.pointer (some ⟨g8,0,none⟩)∧Hid (Blk wx g8 TS (sc FF)∧Below v2.heap.size v2 wx))
 case first=>
  obtain⟨u0,hu0,hc⟩:∃u,v2.drew=u∧Below v2.heap.size v2 u:=⟨_,rfl,(zbr _ _).drew⟩
  have hk0:=K3.out.ext hc;have hlt:=hk0.lt;have HU0:=zh hu0;have hz:u0.heap.size≤u0.heap.size:=zlr _;have q3:=fun w' (t:Turn (fun i=>u0.heap.size≤i) u0 w')=>hk0.turn t (by omega)
  clear hu0;refine z0n (F:=fun i=>u0.heap.size≤i) (.rd 0 (.two 1 (.two 2 (.call 3 (.call 4 .done)) 3 (.call 2 (.call 4 .done))) 3 (.call 1 (.call 2 (.call 4 .done))))) (by kernel_rfl) (by kernel_rfl) (by kernel_rfl) (by kernel_rfl) (fun _ _ _ _ _ h=>h) ?_;rw[HU0.out];refine gsr (v:=.agg (sc f)) rfl (by rfl) (fun w' hw'=>z21 TW (.tmp 3) rfl g3 _ TW (by rfl) x4a (q3 w' hw')) ?_;simp only[Act.put,zs0,zs1,zs2];clear q3 hk0 hlt HU0;refine⟨?_,?_⟩
  ·refine gsc rfl (by rfl) (fun K hK=> ?_);go_simp;refine(below_any 2 _ (by omega)).mono ?_;rintro e uB ⟨rfl,hb⟩;refine hK _ _ (q50 hb) ?_;clear hK K;replace hc:=hc.trans (hb.mono hc.size);replace hz:=znt hz hb.size;clear hb;refine⟨?_,?_⟩
   ·refine gsc rfl (by rfl) (fun K hK=> ?_);go_simp;refine(z3i _ _ _).mono ?_;rintro e uL ⟨rfl,hb⟩;refine hK _ _ (q50 hb) ?_;clear hK K;replace hc:=hc.trans (hb.mono hc.size);replace hz:=znt hz hb.size;clear hb;have hG0:u0.heap.size≤uL.heap.size:=hz;have hGW:v2.heap.size≤uL.heap.size:=hc.size;refine gsc rfl (by rfl) (fun K hK=> ?_);refine z1i TS rfl arrz_TS ?_;intro g8 uA hg8 hA hb;refine hK _ _ (q50 hb) ?_;clear hK K;simp only[Act.put,zs0,zs1,zs2];replace hc:=hc.trans (hb.mono hc.size);replace hz:=znt hz hb.size;clear hb;refine gsc rfl (by rfl) (fun K hK=> ?_);refine z02 TS (.tmp 8) (.tmp 34) rfl g8 _ _ TS (by rfl) (by rfl) arr_TS hA ?_;intro u5 hk ht _;refine hK _ _ (ht.mono (fun i hi _=>by subst hi;exact znt hG0 hg8)) ?_;clear hK K;have hfin:Hid (Blk u5 g8 TS (sc FF)∧Below v2.heap.size v2 u5):=⟨HFF.out.2▸hk,hc.trans (ht.below hc.size (fun i hi=>by subst hi;exact znt hGW hg8))⟩
    refine z0f ?_;go_wp2;go_meet;exact⟨_,rfl,hfin⟩
   ·have hG0:u0.heap.size≤uB.heap.size:=hz;have hGW:v2.heap.size≤uB.heap.size:=hc.size;refine gsc rfl (by rfl) (fun K hK=> ?_);refine z1i TS rfl arrz_TS ?_;intro g8 uA hg8 hA hb;refine hK _ _ (q50 hb) ?_;clear hK K;simp only[Act.put,zs0,zs1,zs2];replace hc:=hc.trans (hb.mono hc.size);replace hz:=znt hz hb.size;clear hb;refine gsc rfl (by rfl) (fun K hK=> ?_);go_simp;refine(z3i _ _ _).mono ?_;rintro e uL ⟨rfl,hb⟩;refine hK _ _ (q50 hb) ?_;clear hK K;replace hc:=hc.trans (hb.mono hc.size);replace hz:=znt hz hb.size;replace hA:=hA.ext hb;clear hb;refine gsc rfl (by rfl) (fun K hK=> ?_);refine z02 TS (.tmp 8) (.tmp 34) rfl g8 _ _ TS (by rfl) (by rfl) arr_TS hA ?_;intro u5 hk ht _;refine hK _ _ (ht.mono (fun i hi _=>by subst hi;exact znt hG0 hg8)) ?_;clear hK K;have hfin:Hid (Blk u5 g8 TS (sc FF)∧Below v2.heap.size v2 u5):=⟨HFF.out.2▸hk,hc.trans (ht.below hc.size (fun i hi=>by subst hi;exact znt hGW hg8))⟩
    refine z0f ?_;go_wp2;go_meet;exact⟨_,rfl,hfin⟩
  ·have hG0:u0.heap.size≤u0.heap.size:=hz;have hGW:v2.heap.size≤u0.heap.size:=hc.size;refine gsc rfl (by rfl) (fun K hK=> ?_);refine z1i TS rfl arrz_TS ?_;intro g8 uA hg8 hA hb;refine hK _ _ (q50 hb) ?_;clear hK K;simp only[Act.put,zs0,zs1,zs2];replace hc:=hc.trans (hb.mono hc.size);replace hz:=znt hz hb.size;clear hb;refine gsc rfl (by rfl) (fun K hK=> ?_);go_simp;refine(below_any 2 _ (by omega)).mono ?_;rintro e uB ⟨rfl,hb⟩;refine hK _ _ (q50 hb) ?_;clear hK K;replace hc:=hc.trans (hb.mono hc.size);replace hz:=znt hz hb.size;replace hA:=hA.ext hb;clear hb;refine gsc rfl (by rfl) (fun K hK=> ?_);go_simp;refine(z3i _ _ _).mono ?_;rintro e uL ⟨rfl,hb⟩;refine hK _ _ (q50 hb) ?_;clear hK K;replace hc:=hc.trans (hb.mono hc.size);replace hz:=znt hz hb.size;replace hA:=hA.ext hb;clear hb;refine gsc rfl (by rfl) (fun K hK=> ?_);refine z02 TS (.tmp 8) (.tmp 34) rfl g8 _ _ TS (by rfl) (by rfl) arr_TS hA ?_;intro u5 hk ht _;refine hK _ _ (ht.mono (fun i hi _=>by subst hi;exact znt hG0 hg8)) ?_;clear hK K;have hfin:Hid (Blk u5 g8 TS (sc FF)∧Below v2.heap.size v2 u5):=⟨HFF.out.2▸hk,hc.trans (ht.below hc.size (fun i hi=>by subst hi;exact znt hGW hg8))⟩
   refine z0f ?_;go_wp2;go_meet;exact⟨_,rfl,hfin⟩
 case rest=>
  obtain⟨g8,rfl,hcc⟩:=hcut;have hb:=hcc.out.2;have K8:=zh hcc.out.1;clear hcc;replace GQ:=zh (GQ.out.ext hb);replace K3:=zh (K3.out.ext hb);replace HTR:=zh (HTR.out.ext hb);replace HEV:=zh (HEV.out.ext hb);replace K5:=zh (TB.ext K5.out hb);clear hb;have c0:=TB.c0 K5.out;have c1:=TB.c1 K5.out;have CN:=zh (fun w ht=>y3m (fun _=> []) p L ts H N0 w ht (HX.out.2.2.1 _) HN0.out (by have:=HX.out.2.2.2.1;omega));go_wp2_with fail;refine(CN.out _ HTR.out).mono ?_;rintro e v3 ⟨rfl,hb⟩;replace GQ:=zh (GQ.out.ext hb);replace K3:=zh (K3.out.ext hb);replace HTR:=zh (HTR.out.ext hb);replace HEV:=zh (HEV.out.ext hb);replace K5:=zh (TB.ext K5.out hb);replace K8:=zh (K8.out.ext hb);clear hb;clear c0 c1;have c0:=TB.c0 K5.out;have c1:=TB.c1 K5.out;obtain⟨C,hC⟩:∃C,cnt FF 1024=C:=⟨_,rfl⟩
  have CC:=zh (fun w=>z48 FF w);rw[hC] at CC;have HC:=zh hC;clear hC
  by_cases hfew:C<N0
  ·have i1:(C:Int)<(N0:Int):=by omega
   have HL:LayC p L f (.iface 110 (.int .i64 8)) 0 [] 0 [] v3:=x61 (fun _=> []) _ p L ts H v3 HTR.out (HX.out.2.2.1 _) (by rw[HN0.out];have:=HX.out.2.2.2.1;omega) (by rw[HFF.out.1,HC.out,HN0.out];exact hfew);have HLc:=zh HL;clear HL hfew
   go_wp2_with (refine wpList_load_sc rfl TW (.tmp 3) rfl g3 f TW (by rfl) x4a K3.out ?_)
   refine(HLc.out).mono ?_;rintro e v4 ⟨p2,vw,rfl,htr2,hwv,hb⟩;replace GQ:=zh (GQ.out.ext hb);replace K3:=zh (K3.out.ext hb);replace HTR:=zh (HTR.out.ext hb);replace HEV:=zh (HEV.out.ext hb);replace K5:=zh (TB.ext K5.out hb);replace K8:=zh (K8.out.ext hb);clear hb;clear c0 c1 HLc;obtain⟨va,vc,rfl,_⟩:=hwv.slice;rw[List.length_nil];clear hwv htr2;obtain⟨v5,hv5,hT,hb⟩:=z0m v4 TT #[.pointer p2,.int .i64 0];replace GQ:=zh (GQ.out.ext hb);replace K3:=zh (K3.out.ext hb);replace HTR:=zh (HTR.out.ext hb);replace HEV:=zh (HEV.out.ext hb);replace K5:=zh (TB.ext K5.out hb);replace K8:=zh (K8.out.ext hb);have K10:Hid (TB v5 v4.heap.size p2 0):=hT;have Hv5:=zh hv5;clear hv5 hT hb
   go_upto_region 7 with fail
   rw[Hv5.out]
   go_wp2_with (refine wpList_load_sc rfl TS (.tmp 8) rfl g8 FF TS (by rfl) arr_TS K8.out ?_)
   refine(CC.out _).mono ?_;rintro e v6 ⟨rfl,hb⟩;replace GQ:=zh (GQ.out.ext hb);replace K3:=zh (K3.out.ext hb);replace HTR:=zh (HTR.out.ext hb);replace HEV:=zh (HEV.out.ext hb);replace K5:=zh (TB.ext K5.out hb);replace K8:=zh (K8.out.ext hb);replace K10:=zh (TB.ext K10.out hb);clear hb;have CE:=x18 (.iface 110 (.int .i64 8)) 8 v6 (x2a 8) GQ.out.g;go_wp2_with fail;refine(CE).mono ?_;rintro e v7 ⟨rfl,hb⟩;replace GQ:=zh (GQ.out.ext hb);replace K3:=zh (K3.out.ext hb);replace HTR:=zh (HTR.out.ext hb);replace HEV:=zh (HEV.out.ext hb);replace K5:=zh (TB.ext K5.out hb);replace K8:=zh (K8.out.ext hb);replace K10:=zh (TB.ext K10.out hb);clear hb;have c0:=TB.c0 K10.out;have c1:=TB.c1 K10.out;go_wp2_with fail;refine(q3e p2 0 _).mono ?_;rintro e v8 ⟨rfl,hb⟩;replace GQ:=zh (GQ.out.ext hb);replace K3:=zh (K3.out.ext hb);replace HTR:=zh (HTR.out.ext hb);replace HEV:=zh (HEV.out.ext hb);replace K5:=zh (TB.ext K5.out hb);replace K8:=zh (K8.out.ext hb);replace K10:=zh (TB.ext K10.out hb);clear hb;clear c0 c1;go_wp2_with fail;refine(y57 v8 GQ.out.g GQ.out.wo GQ.out.ta).mono ?_;rintro e v9 ⟨rfl,hb⟩;replace GQ:=zh (GQ.out.ext hb);replace K3:=zh (K3.out.ext hb);replace HTR:=zh (HTR.out.ext hb);replace HEV:=zh (HEV.out.ext hb);replace K5:=zh (TB.ext K5.out hb);replace K8:=zh (K8.out.ext hb);replace K10:=zh (TB.ext K10.out hb);clear hb;go_wp2;go_ret;exact⟨rfl,GQ.out.b⟩
  ·have i1:¬(C:Int)<(N0:Int):=by omega
   have hc:z0j ts≤cnt (z1h f ts) 1024:=by rw[HFF.out.1,HC.out,HN0.out];omega
   obtain⟨PS,hPS⟩:∃PS,takP f ts=PS:=⟨_,rfl⟩
   obtain⟨us,hus⟩:∃us,layL ts (takP f ts)=us:=⟨_,rfl⟩
   obtain⟨ws,hws⟩:∃ws,wrL ts (takP f ts)=ws:=⟨_,rfl⟩
   have HL:LayC p L f .nilIface L us H ws v3:=by
    rw[←hus,←hws];exact y95 (fun _=> []) f p ts H L v3 HTR.out (HX.out.2.2.1 _) (by rw[HX.out.1];exact HLn.out) (by omega) hc GQ.out.wo GQ.out.ta
   have Hfit:Hid (∀k,k<N0→inB FF ((na PS k:Nat):Int)=true):=fun k hk=>by
    rw[←HFF.out.1,←hPS];exact x96 hc (by rw[HN0.out];exact hk)
   have Hseen:Hid (∀k,k<N0→inB (addR (fun _=>false) (PS.take k)) ((na PS k:Nat):Int)=false):=fun k hk=>by
    rw[←hPS];exact x97 hc (by rw[HN0.out];exact hk)
   have Hwith:Hid (∀k,k<N0→z7e (addR (fun _=>false) (PS.take k)) ((na PS k:Nat):Int)=addR (fun _=>false) (PS.take (k+1))):=fun k hk=>by
    rw[←hPS];exact x62 hc (by rw[HN0.out];exact hk)
   have hwl:ws.length=N0:=by rw[←hws,z7t,HN0.out]
   have hpl:PS.length=N0:=by rw[←hPS,z2w hc,HN0.out]
   have Hpg:Hid (∀k,(ws.getD k (0,[])).1=na PS k):=fun k=>by rw[←hws,←hPS];exact ws_pg hc k
   have Hin:Hid (∀x∈ws,2≤x.1∧x.1<1024):=fun x hx=>by
    have h1:x.1∈takP f ts:=by rw[←z5f hc,hws];exact List.mem_map_of_mem hx
    exact⟨(z2a h1).2.1,(z2a h1).2.2.1⟩
   have hbare:=z9k ts (takP f ts);rw[hus,HX.out.2.2.2.2] at hbare;have hlie:=(HX.out.2.2.1 _).laid hc (PL:=List.replicate 1024 (List.replicate 512 0)) List.length_replicate;rw[hus,hws] at hlie;have hsc:sc (addR (fun _=>false) PS)=sc (addR (fun _=>false) (uL us)):=by
    congr 1
    refine y3c _ (fun m=> ?_);rw[←hus,y75 hc,HX.out.2.1,hPS];simp
   have HLc:=zh HL;have Hlie:=zh hlie;have Hbe:=zh hbare;have Hsc:=zh hsc;have Hwl:=zh (zai hwl hpl);have Hfew:=zh hfew;clear HL hlie hbare hsc hwl hpl hus hws hPS hc hfew
   go_wp2_with (refine wpList_load_sc rfl TW (.tmp 3) rfl g3 f TW (by rfl) x4a K3.out ?_)
   refine(HLc.out).mono ?_;rintro e v4 ⟨p2,vw,rfl,htr2,hwv,hb⟩;replace GQ:=zh (GQ.out.ext hb);replace K3:=zh (K3.out.ext hb);replace HTR:=zh (HTR.out.ext hb);replace HEV:=zh (HEV.out.ext hb);replace K5:=zh (TB.ext K5.out hb);replace K8:=zh (K8.out.ext hb);clear hb;clear c0 c1 HLc;obtain⟨va,vc,rfl,hva,_⟩:=hwv.slice;rw[Hwl.out.1];have HWV:=zh hwv;rw[Hwl.out.1] at HWV hva;have HVA:=zh hva;have HT2:=zh htr2;clear hwv htr2 hva;obtain⟨v5,hv5,hT,hb⟩:=z0m v4 TT #[.pointer p2,.int .i64 L];replace GQ:=zh (GQ.out.ext hb);replace K3:=zh (K3.out.ext hb);replace HTR:=zh (HTR.out.ext hb);replace HEV:=zh (HEV.out.ext hb);replace K5:=zh (TB.ext K5.out hb);replace K8:=zh (K8.out.ext hb);replace HWV:=zh (HWV.out.ext hb);replace HT2:=zh (HT2.out.ext hb);have K10:Hid (TB v5 v4.heap.size p2 L):=hT;have Hv5:=zh hv5;clear hv5 hT hb
   go_upto_region 7 with fail
   rw[Hv5.out]
   go_wp2_with (refine wpList_load_sc rfl TS (.tmp 8) rfl g8 FF TS (by rfl) arr_TS K8.out ?_)
   refine(CC.out _).mono ?_;rintro e v6 ⟨rfl,hb⟩;replace GQ:=zh (GQ.out.ext hb);replace K3:=zh (K3.out.ext hb);replace HTR:=zh (HTR.out.ext hb);replace HEV:=zh (HEV.out.ext hb);replace K5:=zh (TB.ext K5.out hb);replace K8:=zh (K8.out.ext hb);replace HWV:=zh (HWV.out.ext hb);replace HT2:=zh (HT2.out.ext hb);replace K10:=zh (TB.ext K10.out hb);clear hb;have c0:=TB.c0 K10.out;have c1:=TB.c1 K10.out;obtain⟨la,lc,rfl,hes0,_⟩:=HEV.out;rw[HLn.out];have HE:=zh hes0;clear hes0 HEV;have CAll:=zh (fun w (ht:z09 w p2 us H)=>x50 p2 es H w (Hbe.out▸ht.tp) (by rw[HLn.out];omega));rw[HLn.out] at CAll;go_wp2_with fail;refine(CAll.out _ HT2.out).mono ?_;rintro e v7 ⟨vA,rfl,hvA,hb⟩;replace GQ:=zh (GQ.out.ext hb);replace K3:=zh (K3.out.ext hb);replace HTR:=zh (HTR.out.ext hb);replace K5:=zh (TB.ext K5.out hb);replace K8:=zh (K8.out.ext hb);replace HWV:=zh (HWV.out.ext hb);replace HT2:=zh (HT2.out.ext hb);replace K10:=zh (TB.ext K10.out hb);replace HE:=zh (HE.out.ext2 hb);clear hb;obtain⟨aA,cA,rfl,hsA,_⟩:=hvA;rw[HLn.out];have HSA:=zh hsA;clear hsA c0 c1;have CAre:=x45 aA la L cA lc es v7 HLn.out HSA.out HE.out (by omega);go_wp2_with fail;refine(CAre).mono ?_;rintro e v8 ⟨rfl,hb⟩;replace GQ:=zh (GQ.out.ext hb);replace K3:=zh (K3.out.ext hb);replace HTR:=zh (HTR.out.ext hb);replace K5:=zh (TB.ext K5.out hb);replace K8:=zh (K8.out.ext hb);replace HWV:=zh (HWV.out.ext hb);replace HT2:=zh (HT2.out.ext hb);replace K10:=zh (TB.ext K10.out hb);replace HE:=zh (HE.out.ext2 hb);clear hb;clear HSA CAll CC
   go_wp2_with (first
    | (show wpList _ _ _ (⟨some 13,_,_,_,_,_⟩::_) _ _;refine wpList_alloc_arr rfl TS rfl arrz_TS ?_;intro g13 w13 hg13 hk13 hb13))
   have Hg13:=zh hg13;have Hst:Hid (Blk w13 g13 TS (sc (addR (fun _=>false) (PS.take 0)))∧Below v8.heap.size v8 w13):=⟨by rw[List.take_zero,y3a];exact hk13,hb13⟩
   have hN360:N0≤400:=by have:=HX.out.2.2.2.1;omega
   clear hg13 hk13 hb13
   go_loopw [14] (fun i wr=>∃k:Nat,i=.int .i64 k∧k≤N0∧Hid (Blk wr g13 TS (sc (addR (fun _=>false) (PS.take k)))∧Below v8.heap.size v8 wr)) (fun i _=>N0-(intOf i).toNat)
   case atStart=>exact⟨0,rfl,by omega,Hst⟩
   case round=>
    obtain⟨k,rfl,hk,HI⟩:=hrel
    by_cases hlt:k<N0
    ·obtain⟨vg,vo,rfl⟩:=HVA.out (by omega);have hkl:k<ws.length:=by rw[Hwl.out.1];exact hlt
     have h1:=Hfit.out k hlt;have h2:=Hseen.out k hlt;have h3:=Hwith.out k hlt;have h4:=Hpg.out k;obtain⟨q,hq⟩:∃q,na PS k=q:=⟨_,rfl⟩
     rw[hq] at h1 h2 h3 h4;have HH:=zh (zai h1 (zai h2 h3));have Hcell:Hid (∀w',Below v8.heap.size v8 w'→w'.cell? ⟨vg,vo+k*2,none⟩=some (.int .i64 (q:Nat))):=fun w' hb=>by
      have:=WV.cell (HWV.out.ext hb) hkl;rw[h4] at this;exact this
     have i4:(0:Int)≤(k:Int):=by omega
     have i5:(k:Int)<(N0:Int):=by omega
     have z0:IntKind.i64.wrap (k:Int)=(k:Int):=by rw[IntKind.wrap_i64];omega
     clear h1 h2 h3 h4 hq hkl
     go_upto_region 15 with fail
     refine z0h [(0,true),(1,true),(2,true),(3,true),(4,true),(5,true),(6,false),(7,true),(8,true),(9,true),(10,true),(11,true),(12,true),(13,true),(14,true),(15,false),(16,true)] (by kernel_rfl) (by kernel_rfl) (by kernel_rfl) (by kernel_rfl) (fun _ _ _ _ _ h=>h) ?_;obtain⟨ud,hud,hbd⟩:∃u,wr.drew=u∧Below wr.heap.size wr u:=⟨_,rfl,(zbr _ _).drew⟩
     rw[hud];have hBd:=HI.out.2.trans (hbd.mono HI.out.2.size);have k8:=K8.out.ext hBd;have k13:=HI.out.1.ext hbd;have HBd:=zh hBd;have K13d:=zh k13;have qc:=fun w' (h:Ext ud w')=>Hcell.out w' (HBd.out.trans (h.mono HBd.out.size))
     clear hud hbd hBd HI;refine grr (v:=.agg (sc FF)) rfl (by rfl) (fun w' hw'=>z21 TS (.tmp 8) rfl g8 _ TS (by rfl) arr_TS (k8.ext hw')) ?_;simp only[Act.put,zs0,zs1,zs2];iterate 5 (refine grr (v:= ?_) rfl (by rfl) ?_ ?_;rotate_left;(intro w' hw';go_simp;with_reducible rfl);simp only[Act.put,zs0,zs1,zs2])
     clear qc k8;refine grc rfl (by rfl) (fun K hK=> ?_);go_simp;refine(y2i FF (q:Int) ud).mono ?_;rintro e x1 ⟨rfl,hb⟩;refine hK _ _ hb ?_;clear hK K;rw[HH.out.1];have k13b:=k13.ext hb;have K13e:=zh k13b;have HBe:=zh (HBd.out.trans (hb.mono HBd.out.size));have qc:=fun w' (h:Ext x1 w')=>Hcell.out w' (HBe.out.trans (h.mono HBe.out.size))
     clear hb k13 K13d HBd;iterate 2 (refine grr (v:= ?_) rfl (by rfl) ?_ ?_;rotate_left;(intro w' hw';go_simp;with_reducible rfl);simp only[Act.put,zs0,zs1,zs2])
     refine grr (v:=.agg (sc (addR (fun _=>false) (PS.take k)))) rfl (by rfl) (fun w' hw'=>z21 TS (.tmp 13) rfl g13 _ TS (by rfl) arr_TS (k13b.ext hw')) ?_;simp only[Act.put,zs0,zs1,zs2];iterate 5 (refine grr (v:= ?_) rfl (by rfl) ?_ ?_;rotate_left;(intro w' hw';go_simp;with_reducible rfl);simp only[Act.put,zs0,zs1,zs2])
     clear qc k13b;refine grc rfl (by rfl) (fun K hK=> ?_);go_simp;refine(y2i (addR (fun _=>false) (PS.take k)) (q:Int) x1).mono ?_;rintro e x2 ⟨rfl,hb⟩;refine hK _ _ hb ?_;clear hK K;rw[HH.out.2.1];replace K13e:=zh (K13e.out.ext hb);replace HBe:=zh (HBe.out.trans (hb.mono HBe.out.size));clear hb;iterate 1 (refine grr (v:= ?_) rfl (by rfl) ?_ ?_;rotate_left;(intro w' hw';go_simp;with_reducible rfl);simp only[Act.put,zs0,zs1,zs2])
     refine z0l ?_
     go_upto_region 17 with fail
     obtain⟨u7,hu7,hb7⟩:∃u,x2.drew=u∧Below x2.heap.size x2 u:=⟨_,rfl,(zbr _ _).drew⟩
     have Hu7:=zh hu7;have k13:=K13e.out.ext hb7;have HB7:=zh (HBe.out.trans (hb7.mono HBe.out.size));have qc:∀w',Turn (fun i=>i=g13) u7 w'→w'.cell? ⟨vg,vo+k*2,none⟩=some (.int .i64 (q:Nat)):=fun w' t=>Hcell.out w' (HB7.out.trans (t.below HB7.out.size (fun i hi=>by subst hi;exact Hg13.out)))
     clear hu7 hb7 K13e HBe;refine z0n (F:=fun i=>i=g13) (.rd 1 (.rd 2 (.rd 3 (.rd 4 (.rd 5 (.call 0 (.call 6 (.call 7 .done)))))))) (by kernel_rfl) (by kernel_rfl) (by kernel_rfl) (by kernel_rfl) (fun _ _ _ _ _ h=>h) ?_;rw[Hu7.out];iterate 5 (refine gsr (v:= ?_) rfl (by rfl) ?_ ?_;rotate_left;(intro w' hw';go_simp;with_reducible rfl);simp only[Act.put,zs0,zs1,zs2])
     clear qc;refine gsc rfl (by rfl) (fun K hK=> ?_);refine z2h TS (.tmp 13) rfl g13 _ TS (by rfl) arr_TS k13 ?_;refine hK _ _ (Turn.refl _ _) ?_;simp only[Act.put,zs0,zs1,zs2];clear hK K;refine gsc rfl (by rfl) (fun K hK=> ?_);go_simp;refine(y2j (addR (fun _=>false) (PS.take k)) (q:Int) u7).mono ?_;rintro e x3 ⟨rfl,hb⟩;refine hK _ _ (q50 hb) ?_;clear hK K;rw[HH.out.2.2];replace k13:=k13.ext hb;have HB8:=zh (HB7.out.trans (hb.mono HB7.out.size));clear hb;refine gsc rfl (by rfl) (fun K hK=> ?_);refine z02 TS (.tmp 13) (.tmp 108) rfl g13 _ _ TS (by rfl) (by rfl) arr_TS k13 ?_;intro x4 hk4 ht4 _;refine hK _ _ ht4 ?_;clear hK K;have Hn4:Hid (Blk x4 g13 TS (sc (addR (fun _=>false) (PS.take (k+1))))∧Below v8.heap.size v8 x4):=⟨hk4,HB8.out.trans (ht4.below HB8.out.size (fun i hi=>by subst hi;exact Hg13.out))⟩
     clear k13 hk4 ht4 HB8 HB7;refine z0f ?_;go_wp2_with fail
     go_roundw
     case rel=>exact⟨k+1,by go_num,by omega,Hn4⟩
     case measure=>simp[intOf];omega
    ·obtain rfl:k=N0:=by omega
     have i5:¬(k:Int)<(k:Int):=by omega
     have hb:=HI.out.2;have K13:=zh HI.out.1;rw[List.take_of_length_le (by rw[Hwl.out.2];exact zlr _)] at K13;replace GQ:=zh (GQ.out.ext hb);replace HWV:=zh (HWV.out.ext hb);replace HT2:=zh (HT2.out.ext hb);replace K10:=zh (TB.ext K10.out hb);replace HE:=zh (HE.out.ext2 hb);clear hb HI;go_wp2_with fail;refine((q5z 1024 _ (by omega))).mono ?_;rintro e v9 ⟨u9,rfl,hpv,hb⟩;replace GQ:=zh (GQ.out.ext hb);replace HWV:=zh (HWV.out.ext hb);replace HT2:=zh (HT2.out.ext hb);replace K10:=zh (TB.ext K10.out hb);replace HE:=zh (HE.out.ext2 hb);replace K13:=zh (K13.out.ext hb);clear hb;have HPV:=zh hpv;clear hpv;go_wp2_with fail;refine((laidC u9 _ _ ws _ HPV.out (Nat.le_trans (Nat.le_of_eq List.length_replicate) (by omega)) (Nat.lt_of_lt_of_eq (by omega) List.length_replicate.symm) HWV.out (by rw[Hwl.out.1];omega) (fun x hx=>⟨(Hin.out x hx).1,Nat.lt_of_lt_of_eq (Hin.out x hx).2 List.length_replicate.symm⟩))).mono ?_;rintro e v10 ⟨u10,rfl,hp10,hb⟩;replace GQ:=zh (GQ.out.ext hb);replace HWV:=zh (HWV.out.ext hb);replace HT2:=zh (HT2.out.ext hb);replace K10:=zh (TB.ext K10.out hb);replace HE:=zh (HE.out.ext2 hb);replace K13:=zh (K13.out.ext hb);replace HPV:=zh (HPV.out.ext hb);clear hb;have hlen:(layP (List.replicate 1024 (List.replicate 512 0)) ws).length=1024:=by rw[y3d];exact List.length_replicate
     obtain⟨P1,hP1⟩:∃P1,layP (List.replicate 1024 (List.replicate 512 0)) ws=P1:=⟨_,rfl⟩
     rw[hP1] at hp10 hlen Hlie;obtain⟨o,ho1,ho2⟩:=x63 hlen HT2.out (by rw[←z4f,Hbe.out,HLn.out];omega) Hlie.out;rw[Hbe.out] at ho2;have HPV:=zh hp10;obtain⟨pa,pc,rfl,_,hpa⟩:=hp10.arg;obtain⟨pg,po,rfl⟩:=hpa (by rw[hlen];omega);rw[hlen] at HPV⊢
     have HO:=zh (zai hlen (zai ho1 ho2));obtain⟨RT,hRT⟩:∃RT,(us.headD (.leaf 0 [])).pg=RT:=⟨_,rfl⟩
     have CR:=zh (fun w ht=>z91 p2 L us H w ht);rw[hRT] at HO CR;clear hlen hP1 ho1 ho2 hpa hRT;have CU:=zh (fun w ht=>y97 _ p2 L us H w ht Hlie.out.mix);have qT:∀(w:World) (a:Option Addr) (n c n' c':Nat),(binOp .eql 52 (.slice a n c) (.slice none n' c')).run Tryz.prog w=.ok (.bool a.isNone) w:=fun w a n c n' c'=>Lib.run_eql_slice_nil w _ _ a n c n' c' Tryz.underlying52
     go_upto_region 19 with fail
     refine z0h [(0,true),(1,true),(2,true),(3,true),(5,true),(4,false),(6,true),(7,true)] (by kernel_rfl) (by kernel_rfl) (by kernel_rfl) (by kernel_rfl) (fun _ _ _ _ _ h=>h) ?_;obtain⟨ud,hud,hb⟩:∃u,v10.drew=u∧Below v10.heap.size v10 u:=⟨_,rfl,(zbr _ _).drew⟩
     rw[hud];replace GQ:=zh (GQ.out.ext hb);replace HWV:=zh (HWV.out.ext hb);replace HT2:=zh (HT2.out.ext hb);replace K10:=zh (TB.ext K10.out hb);replace HE:=zh (HE.out.ext2 hb);replace K13:=zh (K13.out.ext hb);replace HPV:=zh (HPV.out.ext hb);clear hb hud;have qa0:=fun w' (h:Ext ud w')=>(TB.ext (K10.out) h).c0
     have qa1:=fun w' (h:Ext ud w')=>(TB.ext (K10.out) h).c1
     iterate 4 (refine grr (v:= ?_) rfl (by rfl) ?_ ?_;rotate_left;(intro w' hw';go_simp;with_reducible rfl);simp only[Act.put,zs0,zs1,zs2])
     refine grr (v:=.agg (sc (addR (fun _=>false) PS))) rfl (by rfl) (fun w' hw'=>z21 TS (.tmp 13) rfl g13 _ TS (by rfl) arr_TS (K13.out.ext hw')) ?_;simp only[Act.put,zs0,zs1,zs2];clear qa0 qa1;refine grc rfl (by rfl) (fun K hK=> ?_);go_simp;refine(CU.out ud HT2.out).mono ?_;rintro e v11 ⟨rfl,hb⟩;refine hK _ _ hb ?_;clear hK K;replace GQ:=zh (GQ.out.ext hb);replace HWV:=zh (HWV.out.ext hb);replace HT2:=zh (HT2.out.ext hb);replace K10:=zh (TB.ext K10.out hb);replace HE:=zh (HE.out.ext2 hb);replace K13:=zh (K13.out.ext hb);replace HPV:=zh (HPV.out.ext hb);clear hb;try simp only[Act.put,zs0,zs1,zs2]
     refine grr (v:=.bool false) rfl (by rfl) (fun w' hw'=>x4b (.tmp 116) (.tmp 117) _ rfl _ _ (by rfl) (by rfl) Hsc.out) ?_;simp only[Act.put,zs0,zs1,zs2];iterate 1 (refine grr (v:= ?_) rfl (by rfl) ?_ ?_;rotate_left;(intro w' hw';go_simp;with_reducible rfl);simp only[Act.put,zs0,zs1,zs2])
     refine z0l ?_;have c0:=TB.c0 K10.out;have c1:=TB.c1 K10.out;go_wp2_with fail;refine(CR.out _ HT2.out).mono ?_;rintro e v12 ⟨rfl,hb⟩;replace GQ:=zh (GQ.out.ext hb);replace HWV:=zh (HWV.out.ext hb);replace HT2:=zh (HT2.out.ext hb);replace K10:=zh (TB.ext K10.out hb);replace HE:=zh (HE.out.ext2 hb);replace HPV:=zh (HPV.out.ext hb);clear hb;clear c0 c1;go_wp2_with fail;refine((readC _ P1 RT L _ o HPV.out (by rw[HO.out.1];omega) (by omega) HO.out.2.1 (by rw[HO.out.2.2];exact HLn.out))).mono ?_;rintro e v13 ⟨LV,ua,un,uc,rfl,hev,hb⟩;replace GQ:=zh (GQ.out.ext hb);replace HWV:=zh (HWV.out.ext hb);replace HT2:=zh (HT2.out.ext hb);replace K10:=zh (TB.ext K10.out hb);replace HE:=zh (HE.out.ext2 hb);replace HPV:=zh (HPV.out.ext hb);clear hb;rw[HO.out.2.2] at hev;obtain⟨oa,oc,rfl,hoa,_⟩:=hev;rw[HLn.out];have HOE:=zh hoa;clear hoa;obtain⟨OD,hOD⟩:∃OD,o.d=OD:=⟨_,rfl⟩
     rw[hOD];clear hOD;obtain⟨y1,hy1,hyo,hb⟩:=z0m v13 ROT #[.slice oa L oc,.slice ua un uc,.int .i64 OD,.bool false];replace GQ:=zh (GQ.out.ext hb);replace HWV:=zh (HWV.out.ext hb);replace HT2:=zh (HT2.out.ext hb);replace K10:=zh (TB.ext K10.out hb);replace HE:=zh (HE.out.ext2 hb);replace HPV:=zh (HPV.out.ext hb);replace HOE:=zh (HOE.out.ext2 hb);have HY:=zh hy1;have HYO:Hid (Blk y1 v13.heap.size ROT #[.slice oa L oc,.slice ua un uc,.int .i64 OD,.bool false]):=hyo;clear hy1 hyo hb
     go_upto_region 22 with fail
     rw[HY.out];have CAll:=zh (fun w (ht:z09 w p2 us H)=>x50 p2 es H w (Hbe.out▸ht.tp) (by rw[HLn.out];omega));rw[HLn.out] at CAll;refine z0h [(0,true),(1,true),(2,true),(3,true),(4,true),(5,true),(6,true),(7,true),(8,true),(9,true),(10,true),(11,true),(13,true),(14,true),(12,false),(15,false),(16,true),(17,true),(18,false),(19,true),(20,true)] (by kernel_rfl) (by kernel_rfl) (by kernel_rfl) (by kernel_rfl) (fun _ _ _ _ _ h=>h) ?_;obtain⟨ud,hud,hb⟩:∃u,y1.drew=u∧Below y1.heap.size y1 u:=⟨_,rfl,(zbr _ _).drew⟩
     rw[hud];replace GQ:=zh (GQ.out.ext hb);replace HWV:=zh (HWV.out.ext hb);replace HT2:=zh (HT2.out.ext hb);replace K10:=zh (TB.ext K10.out hb);replace HE:=zh (HE.out.ext2 hb);replace HPV:=zh (HPV.out.ext hb);replace HOE:=zh (HOE.out.ext2 hb);replace HYO:=zh (HYO.out.ext hb);clear hb hud;have qa0:=fun w' (h:Ext ud w')=>(TB.ext (K10.out) h).c0
     have qa1:=fun w' (h:Ext ud w')=>(TB.ext (K10.out) h).c1
     have qc:=fun w' (h:Ext ud w')=>(by have:=(HYO.out.ext h).cell 0;exact this:w'.cell? ⟨v13.heap.size,0,none⟩=some (.slice oa L oc))
     iterate 14 (refine grr (v:= ?_) rfl (by rfl) ?_ ?_;rotate_left;(intro w' hw';go_simp;with_reducible rfl);simp only[Act.put,zs0,zs1,zs2])
     clear qa0 qa1 qc;refine grc rfl (by rfl) (fun K hK=> ?_);go_simp;refine(CAll.out ud HT2.out).mono ?_;rintro e v14 ⟨vA,rfl,hvA,hb⟩;refine hK _ _ hb ?_;clear hK K;replace GQ:=zh (GQ.out.ext hb);replace HWV:=zh (HWV.out.ext hb);replace HT2:=zh (HT2.out.ext hb);replace K10:=zh (TB.ext K10.out hb);replace HE:=zh (HE.out.ext2 hb);replace HPV:=zh (HPV.out.ext hb);replace HOE:=zh (HOE.out.ext2 hb);replace HYO:=zh (HYO.out.ext hb);clear hb;try simp only[Act.put,zs0,zs1,zs2]
     obtain⟨aA,cA,rfl,hsA,_⟩:=hvA;rw[HLn.out];have HSA:=zh hsA;clear hsA;have CAre:=x45 aA oa L cA oc es v14 HLn.out HSA.out HOE.out (by omega);refine grc rfl (by rfl) (fun K hK=> ?_);go_simp;refine(CAre).mono ?_;rintro e v15 ⟨rfl,hb⟩;refine hK _ _ hb ?_;clear hK K;replace GQ:=zh (GQ.out.ext hb);replace HWV:=zh (HWV.out.ext hb);replace HT2:=zh (HT2.out.ext hb);replace K10:=zh (TB.ext K10.out hb);replace HE:=zh (HE.out.ext2 hb);replace HPV:=zh (HPV.out.ext hb);replace HOE:=zh (HOE.out.ext2 hb);replace HYO:=zh (HYO.out.ext hb);clear hb;try simp only[Act.put,zs0,zs1,zs2]
     iterate 2 (refine grr (v:= ?_) rfl (by rfl) ?_ ?_;rotate_left;(intro w' hw';go_simp;with_reducible rfl);simp only[Act.put,zs0,zs1,zs2])
     refine grc rfl (by rfl) (fun K hK=> ?_);go_simp;refine(y57 v15 GQ.out.g GQ.out.wo GQ.out.ta).mono ?_;rintro e v16 ⟨rfl,hb⟩;refine hK _ _ hb ?_;clear hK K;replace GQ:=zh (GQ.out.ext hb);replace HWV:=zh (HWV.out.ext hb);replace HT2:=zh (HT2.out.ext hb);replace K10:=zh (TB.ext K10.out hb);replace HE:=zh (HE.out.ext2 hb);replace HPV:=zh (HPV.out.ext hb);replace HOE:=zh (HOE.out.ext2 hb);replace HYO:=zh (HYO.out.ext hb);clear hb;try simp only[Act.put,zs0,zs1,zs2]
     iterate 2 (refine grr (v:= ?_) rfl (by rfl) ?_ ?_;rotate_left;(intro w' hw';go_simp;with_reducible rfl);simp only[Act.put,zs0,zs1,zs2])
     refine z0l ?_;go_wp2;go_ret;exact⟨rfl,GQ.out.b⟩
end Go.Proofs.YtdgladhfibfdlaaGreatDoor
