/-
  Steps.
-/
import Derived.Test.YtdnfhjfbanhhcaaGreatDoorQLBk43
import Derived.Test.YtdnfhjfbanhhcaaGreatDoorQLBk41
import Derived.Test.YtdnfhjfbanhhcaaGreatDoorProg
import Derived.Defers
import Derived.Recover
namespace Go.Proofs.YtdnfhjfbanhhcaaGreatDoor
open Go Go.RowKit
theorem x9t (v:Value)(b:List Nat)(w:World)(hv:Sl w v b)(h8:B8 b)(hl:b.length≤504):
  Calls Tryz.prog 98 #[v] w fun e w'=>∃u v,e=.returned (.tuple #[.agg #[u,v],errV (x0j b)])∧TxV w' u (y6m b)∧PgV w' v (y6n b)∧Below w.heap.size w w'∧TyR w' u STY:=by
 obtain⟨a,c,rfl,hs,hz,h1,h2⟩:=hv.arg;exact y5t a _ c b w rfl hs hz (by omega) h8
theorem q0v:∀ks:List ByteArray,strE.row ks=sv ks
 | []=>rfl
 | k::r=>by rw[Elt.row,q0v r];rfl
theorem TxV.str {w:World}{v:Value}{ks:List ByteArray}(h:TxV w v ks)(ht:TyR w v STY)(h0:0<ks.length):EV strE w v ks:=by
 obtain⟨a,c,rfl,hs,h1,h2,h3⟩:=h;refine⟨a,c,rfl,?_,h1,h2,h3⟩;obtain⟨g,o,rfl,hc⟩:=hs h0;obtain⟨A,fz,hg⟩:=ht g o _ _ rfl;refine .inr ⟨g,o,rfl,⟨A,_,fz,hg,rfl⟩,fun j u hu=> ?_⟩;rw[q0v] at hu;have hj:j<ks.length:=by
  have:=(List.getElem?_eq_some_iff.1 hu).1
  simpa [sv] using this
 rw[x96 ks j hj] at hu
 cases hu
 exact hc j hj
theorem y9y {w w6:World}{h:Nat}{lo hi:SB}{t:Tr}{x0 x1 x2 x3:Value}{x:NoV}(hn:NdS w6 (fun b=>b<w.heap.size+2) h lo hi x t)(hg:w6.heap[w.heap.size+1]? =some (.cells #[.int .i64 0,nilS,nilS,nilS] VT (0,0))):
  NdS (put4 w6 (w.heap.size+1) x0 x1 x2 x3) (fun b=>b<w.heap.size) h lo hi x t:=
 hn.step (z1r (w:=w6) (g:=w.heap.size+1)) (fun i hi _=>by
  obtain rfl:i=w.heap.size+1:=hi;exact⟨_,_,_,hg,.inr ⟨.inr rfl,by omega⟩⟩) (fun i hi _=>by omega)
set_option maxRecDepth 100000 in
set_option maxHeartbeats 4000000 in
theorem y1k (gr:Nat)(a:Option Addr)(n c:Nat)(P:List (List Nat))(f:Nat)(o:RO)(x:Int)(s:Sp)(deep:Int)(lo hi:SB)(w:World)(hn:P.length=n)(hn9:n≤1024)(hs:SpB s lo hi)(h0:0≤o.d)(hd1:1≤deep)(hd9:deep≤100000)
  (hL:LdW w gr a P) (hB:Blk w gr RDG (rdv (.slice a n c) o.u o.d)) (hf:z1f o.u n≤f)
  (ih:∀f',f=f'+1→∀(o:RO) (x:Int) (s:Sp) (lo hi:SB) (w:World),SpB s lo hi→0≤o.d→LdW w gr a P→Blk w gr RDG (rdv (.slice a n c) o.u o.d)→z1f o.u n≤f'→Calls Tryz.prog 65 #[.pointer (some ⟨gr,0,none⟩),.int .i64 x,s.v,.int .i64 (deep+1)] w fun e w'=>NdQ w w' gr (.slice a n c) (deep+1) lo hi (ldN P f' o x s (deep+1)) e):
  Calls Tryz.prog 65 #[.pointer (some ⟨gr,0,none⟩),.int .i64 x,s.v,.int .i64 deep] w fun e w'=>NdQ w w' gr (.slice a n c) deep lo hi (ldN P f o x s deep) e:=by
 obtain⟨R,hR⟩:∃R,ldN P f o x s deep=R:=⟨_,rfl⟩
 rw[hR];have hb1:Below w.heap.size w (w.alloc (.cells #[.string s.lo,.string s.hi,.bool s.op] SPT)):=(zbr _ _).alloc (zlr _) _;have hf1:=z0h w SPT #[.string s.lo,.string s.hi,.bool s.op];have hb2:Below (w.heap.size+1) (w.alloc (.cells #[.string s.lo,.string s.hi,.bool s.op] SPT)) ((w.alloc (.cells #[.string s.lo,.string s.hi,.bool s.op] SPT)).alloc (.cells #[.int .i64 0,nilS,nilS,nilS] VT)):=(zbr _ _).alloc (by simp) _;have hs2:=z0h (w.alloc (.cells #[.string s.lo,.string s.hi,.bool s.op] SPT)) VT #[.int .i64 0,nilS,nilS,nilS];have hz2:((w.alloc (.cells #[.string s.lo,.string s.hi,.bool s.op] SPT)).alloc (.cells #[.int .i64 0,nilS,nilS,nilS] VT)).heap.size=w.heap.size+2:=by simp
 obtain⟨W,hW⟩:∃W,(w.alloc (.cells #[.string s.lo,.string s.hi,.bool s.op] SPT)).alloc (.cells #[.int .i64 0,nilS,nilS,nilS] VT)=W:=⟨_,rfl⟩
 rw[show(w.alloc (.cells #[.string s.lo,.string s.hi,.bool s.op] SPT)).heap.size=w.heap.size+1 by simp] at hs2;rw[hW] at hb2 hs2 hz2;have hbW:Below w.heap.size w W:=hb1.trans (hb2.mono (Nat.le_succ _));have hgw:gr<w.heap.size:=hB.lt;have HS:Hid (Blk W w.heap.size SPT #[.string s.lo,.string s.hi,.bool s.op]):=Blk.below (w:=w.alloc (.cells #[.string s.lo,.string s.hi,.bool s.op] SPT)) hf1 hb2 (Nat.lt_succ_self _);have HV:=zh (show Blk W (w.heap.size+1) VT #[.int .i64 0,nilS,nilS,nilS] from hs2);have HBW:=zh hbW;have HZ:=zh hz2;have HW:=zh hW;have HB:=zh (hB.ext hbW);have HL:=zh (hL.ext hbW);have HR:=zh hR;have HSp:=zh hs;have HF:=zh hf;have HI:=zh ih;have Hd0:=zh h0;have HN:=zh hn;have HM0:=zh (fun w=>z4d w);have HM1:=zh (fun w=>z4c w);have HPg:=zh (fun(o:RO) (x:Int) (w:World) (hL:LdW w gr a P) (hB:Blk w gr RDG (rdv (.slice a n c) o.u o.d))=>y53 gr a n c P o x w HN.out hn9 hL hB);have Hcs:=zh (fun(f:Nat) (o:RO) (v:Value) (b:List Nat) (w:World) (hv:Sl w v b) (h8:B8 b) (hbl:b.length≤504) (hL:LdW w gr a P) (hB:Blk w gr RDG (rdv (.slice a n c) o.u o.d)) (hf:z1f o.u n≤f)=>x1g gr a n c P f o v b s deep w HN.out hn9 hv h8 hbl hL hB hf);have Hb8:=zh hL.pg.b8;clear hs h0 hL hB hf ih hb1 hf1 hb2 hs2 hz2 hbW hR hW hn;obtain⟨slo,shi,sop⟩:=s;dsimp only[Sp.v] at*
 go_enter Tryz.func65,Tryz.ntmps65
 go_wp2_with fail;rw[HW.out];have H1:=zh (HPg.out o x W HL.out HB.out)
 cases ho:z3k P o x with
 | none=>
  have HN1:Hid (R=none):=by
   show _=_;rw[←HR.out]
   cases f<;>unfold ldN
   ·rfl
   ·rw[ho]
  rw[ho] at H1;clear ho HR;refine H1.out.mono ?_;rintro e w3 ⟨rfl,ht⟩;have HT3:Hid (Turn (fun i=>i=gr) w w3):=(q5w HBW.out).trans ht;clear ht;go_wp2;rw[HN1.out];exact⟨rfl,rfl,HT3.out⟩
 | some z=>
  obtain⟨o1,kd,b⟩:=z;obtain⟨hb8,hbl,hkd⟩:=y1i ho Hb8.out;have hfr:=z45 P ho;rw[HN.out] at hfr;have g1:=(z2o P ho).1;obtain⟨m,rfl⟩:∃m:Nat,x=(m:Int):=⟨x.toNat,by omega⟩
  obtain⟨k,rfl⟩:∃k,f=k+1:=⟨f-1,by have:=HF.out;omega⟩
  have HF1:Hid (z1f o1.u n≤k):=by show _≤_;have:=HF.out;omega
  have Hd1:Hid (0≤o1.d):=by have:=Hd0.out;show 0≤o1.d;rw[hfr.2.2];exact this
  have hR2:R=if kd=1 then (match ldL P k b ⟨slo,shi,sop⟩ deep o1 with
    | none=>none
    | some (o2,es)=>some (o2,.leaf m es))
   else if kd=2 then (match z22 b with
    | none=>none
    | some (ks,ps)=>match ldK (ldN P k) ks ps ⟨slo,shi,sop⟩ deep ps.length o1 with
     | none=>none
     | some (o2,ts)=>some (o2,.bran m ks ts))
   else none:=by
   rw[←HR.out];unfold ldN;rw[ho];simp only[Int.toNat_natCast];unfold ldL;split
   ·split
    ·rfl
    ·cases decS b with
     | none=>rfl
     | some cs=>
      simp only;split<;>rfl
   ·rfl
  rw[ho] at H1;have HR2:=zh hR2;have Hb:=zh (zai hb8 hbl);have HI1:=zh (fun o x s lo hi w=>HI.out k rfl o x s lo hi w);clear ho hR2 HR HI HF hb8 hbl hfr Hd0;refine H1.out.mono ?_;rintro e w3 ⟨vl,rfl,hsl,hbk,ht⟩;have HT3:Hid (Turn (fun i=>i=gr) w w3):=(q5w HBW.out).trans ht;have HS3:=zh (HS.out.turn ht (fun e=>by omega));have HV3:=zh (HV.out.turn ht (fun e=>by omega));have HL3:=zh (HL.out.turn ht (fun i hi=>by omega));have HB3:=zh hbk;have Hsl:=zh hsl;have HW3:Hid (w.heap.size+2≤w3.heap.size):=by have:=HZ.out;have:=ht.size;show _≤_;omega
  have s0:w3.cell? ⟨w.heap.size,0,none⟩=some (.string slo):=by rw[HS3.out.cell];rfl
  have s1:w3.cell? ⟨w.heap.size,1,none⟩=some (.string shi):=by rw[HS3.out.cell];rfl
  have s2:w3.cell? ⟨w.heap.size,2,none⟩=some (.bool sop):=by rw[HS3.out.cell];rfl
  clear ht hbk hsl HS HV HL HB HPg H1 HW HBW HZ
  by_cases hk1:kd=1
  ·subst hk1;have Hc:=Hcs.out k o1 vl b w3 Hsl.out Hb.out.1 Hb.out.2 HL3.out HB3.out HF1.out;have HRl:=HR2.out;rw[if_pos rfl] at HRl;have HCc:=zh Hc;have HR3:=zh HRl;clear Hc HRl HR2 Hcs;go_wp2_with fail;refine HCc.out.mono ?_;intro e w5 hq
   cases hl:ldL P k b ⟨slo,shi,sop⟩ deep o1 with
   | none=>
    rw[hl] at hq HR3;obtain⟨rfl,ht⟩:=hq;have HT5:=zh (HT3.out.trans ht);clear ht hl s0 s1 s2;go_wp2;rw[HR3.out];exact⟨rfl,rfl,HT5.out⟩
   | some z=>
    obtain⟨o2,es⟩:=z;rw[hl] at hq HR3;obtain⟨u,rfl,hoc,hb5,ht5⟩:=hq;have hfa:=x6k hl HSp.out;obtain⟨a1,a2,a3,a4,a5,a6,a7,a8,a9,a10,a11,a12⟩:=hfa;have HA:=zh (y08 m u es w5 hoc.cv (by omega) (fun e he=>by have:=(a10 e he).2.2.2;omega));have HT5:=zh (HT3.out.trans ht5);have HV5:=zh (HV3.out.turn ht5 (fun e=>by omega));have HB5:=zh hb5;have HW5:Hid (w.heap.size+2≤w5.heap.size):=znt HW3.out ht5.size;have HFa:=zh (zai a1 (zai a2 (zai a3 a8)));clear hl hoc hb5 ht5 a1 a2 a3 a4 a5 a6 a7 a8 a9 a10 a11 a12 s0 s1 s2 HCc;go_wp2_with fail;refine HA.out.mono ?_;rintro e w6 ⟨x,rfl,hxp,hxc,hxk,hxv,hb6⟩;have hg:w6.heap[w.heap.size+1]? =some (.cells #[.int .i64 0,nilS,nilS,nilS] VT (0,0)):=HV5.out.ext hb6;have hst:NdS w6 (fun b=>b<w.heap.size+2) 0 lo hi x (.leaf x.pg es):=(OCk.stay (w:=w5) hxc hxk hxv HFa.out.2.1 HFa.out.1 HFa.out.2.2.1).ext (zbr _ _) (fun i hi _=>by have:=HW5.out;omega);have HT6:Hid (Turn (fun i=>i=gr) w w6):=HT5.out.step (G:=fun _=>False) (q5w hb6) (fun _ hf _=>hf.elim);have HB6:=zh (HB5.out.ext hb6);rw[hxp] at hst;have Hst:=zh hst;have Hxp:=zh hxp;have cc0:w6.cell? ⟨w.heap.size+1,0,none⟩=some (.int .i64 0):=by simp[World.cell?,hg]
    have cc1:w6.cell? ⟨w.heap.size+1,1,none⟩=some nilS:=by simp[World.cell?,hg]
    have cc2:w6.cell? ⟨w.heap.size+1,2,none⟩=some nilS:=by simp[World.cell?,hg]
    have cc3:w6.cell? ⟨w.heap.size+1,3,none⟩=some nilS:=by simp[World.cell?,hg]
    have f0:∀i,w6.frozen? ⟨w.heap.size+1,i,none⟩=false:=fun i=>by simp[World.frozen?,hg]
    have F0:=f0 0;have F1:=f0 1;have F2:=f0 2;have F3:=f0 3;have Hg:=zh hg;clear hg f0 hst hxp hxc hxk hxv hb6 HA HT5 HB5 HV5;obtain⟨pg,ca,cn,cc,ka,kn,kc,pa,pn,pc⟩:=x;dsimp only[NoV.c,NoV.k,NoV.p,NoV.v] at*;go_wp2_with fail;have Hp:=zh (z13 (x0:=.int .i64 (pg:Nat)) (x1:=.slice ca cn cc) (x2:=.slice ka kn kc) (x3:=.slice pa pn pc) Hg.out);have k0:(put4 w6 (w.heap.size+1) (.int .i64 (pg:Nat)) (.slice ca cn cc) (.slice ka kn kc) (.slice pa pn pc)).cell? ⟨w.heap.size+1,0,none⟩=some (.int .i64 (pg:Nat)):=by simp[World.cell?,Hp.out]
    have k1:(put4 w6 (w.heap.size+1) (.int .i64 (pg:Nat)) (.slice ca cn cc) (.slice ka kn kc) (.slice pa pn pc)).cell? ⟨w.heap.size+1,1,none⟩=some (.slice ca cn cc):=by simp[World.cell?,Hp.out]
    have k2:(put4 w6 (w.heap.size+1) (.int .i64 (pg:Nat)) (.slice ca cn cc) (.slice ka kn kc) (.slice pa pn pc)).cell? ⟨w.heap.size+1,2,none⟩=some (.slice ka kn kc):=by simp[World.cell?,Hp.out]
    have k3:(put4 w6 (w.heap.size+1) (.int .i64 (pg:Nat)) (.slice ca cn cc) (.slice ka kn kc) (.slice pa pn pc)).cell? ⟨w.heap.size+1,3,none⟩=some (.slice pa pn pc):=by simp[World.cell?,Hp.out]
    unfold put4 at k0 k1 k2 k3;have tp:=z1r (w:=w6) (g:=w.heap.size+1) (x0:=.int .i64 (pg:Nat)) (x1:=.slice ca cn cc) (x2:=.slice ka kn kc) (x3:=.slice pa pn pc);have hend:Hid (NdS (put4 w6 (w.heap.size+1) (.int .i64 (pg:Nat)) (.slice ca cn cc) (.slice ka kn kc) (.slice pa pn pc)) (fun b=>b<w.heap.size) 0 lo hi ⟨pg,ca,cn,cc,ka,kn,kc,pa,pn,pc⟩ (.leaf m es)∧
      Blk (put4 w6 (w.heap.size+1) (.int .i64 (pg:Nat)) (.slice ca cn cc) (.slice ka kn kc) (.slice pa pn pc)) gr RDG (rdv (.slice a n c) o2.u o2.d)∧
      Turn (fun i=>i=gr) w (put4 w6 (w.heap.size+1) (.int .i64 (pg:Nat)) (.slice ca cn cc) (.slice ka kn kc) (.slice pa pn pc))):=
     ⟨y9y Hst.out Hg.out,HB6.out.turn tp (fun e=>by omega),HT6.out.step tp (fun i hi hl=>by
      obtain rfl:i=w.heap.size+1:=hi;omega)⟩
    unfold put4 at hend;refine bodyPost_ret (v:=.agg #[.int .i64 (pg:Nat),.slice ca cn cc,.slice ka kn kc,.slice pa pn pc]) (by rw[z0c rfl];go_simp) rfl ?_;rw[HR3.out];exact⟨⟨pg,ca,cn,cc,ka,kn,kc,pa,pn,pc⟩,0,rfl,(by rw[HFa.out.2.2.2];exact(Int.add_zero _).symm),hend.out.1,hend.out.2.1,hend.out.2.2⟩
  ·have e1:((kd:Int)==1)=false:=beq_eq_false_iff_ne.2 (by omega);have HRk:=HR2.out;rw[if_neg hk1] at HRk
   by_cases hk2:kd=2
   ·subst hk2;rw[if_pos rfl] at HRk;have HRb:=zh HRk;have HDe:=zh (x9t vl b w3 Hsl.out Hb.out.1 Hb.out.2);clear HRk HR2 hk1 Hcs;go_wp2_with fail;refine(HM1.out w3).mono ?_;rintro e w4 ⟨rfl,rfl⟩;go_wp2_with fail;refine HDe.out.mono ?_;rintro e w5 ⟨u,v,rfl,htx,hpg,hb5,hty⟩;have HT5:Hid (Turn (fun i=>i=gr) w w5):=HT3.out.step (G:=fun _=>False) (q5w hb5) (fun _ hf _=>hf.elim)
    cases hfs:z22 b with
    | none=>
     obtain⟨_,_,d3⟩:=y13 hfs;rw[hfs] at HRb;obtain⟨ca,cc,rfl,_⟩:=htx;obtain⟨pa,pc,rfl,_⟩:=hpg;rw[d3,show errV 3=.iface 94 (.int .i64 3) from rfl];generalize (y6m b).length=L1 at*;generalize (y6n b).length=L2 at*;have HT6:Hid (Turn (fun i=>i=gr) w (w5.alloc (.cells #[.slice ca L1 cc,.slice pa L2 pc] FT))):=HT5.out.step (G:=fun _=>False) (q5w ((zbr _ _).alloc (zlr _) _)) (fun _ hf _=>hf.elim);clear hfs d3 hb5 hty s0 s1 s2;go_wp2_with fail;refine(HM0.out _).mono ?_;rintro e w6 ⟨rfl,rfl⟩;go_wp2;rw[HRb.out];exact⟨rfl,rfl,HT6.out⟩
    | some z=>
     obtain⟨ks,ps⟩:=z;obtain⟨d1,d2,d3⟩:=y8l hfs;obtain⟨c1,c2,c3⟩:=z9g hfs;rw[hfs] at HRb;rw[d1] at htx;rw[d2] at hpg;rw[d3,show errV 0=.nilIface from rfl];have hk0:=c2.2.2.1;have hok:∀q∈ks,okK q=true:=fun q hq=>by
      obtain⟨i,hi,rfl⟩:=List.getElem_of_mem hq;have h1:=(c2.1 i hi).1
      rwa [show sa ks i=ks[i] by unfold sa;simp[List.getD,hi]] at h1
     have hkr:=(z0u hok).1;have hstr:=htx.str hty (by omega);obtain⟨ca,cc,rfl,hts,_⟩:=htx;obtain⟨pa,pc,rfl,hps,_⟩:=hpg;obtain⟨KK,hKK⟩:∃K,ks.length=K:=⟨_,rfl⟩
     obtain⟨N,hN⟩:∃N,ps.length=N:=⟨_,rfl⟩
     have hKN:KK+1=N:=by have:=c2.2.2.2;omega
     have hN9:N≤504:=by unfold brSz at c1;omega
     have hK2:2≤N:=by omega
     replace HRb:Hid (R=match ldK (ldN P k) ks ps ⟨slo,shi,sop⟩ deep ps.length o1 with
      | none=>none
      | some (o2,ts)=>some (o2,.bran m ks ts)):=HRb.out
     rw[hKK] at hstr⊢
     rw[hN] at HRb⊢
     obtain⟨W6,hW6⟩:∃W6,w5.alloc (.cells #[.slice ca KK cc,.slice pa N pc] FT)=W6:=⟨_,rfl⟩
     have hb6:Below w5.heap.size w5 W6:=by rw[←hW6];exact(zbr _ _).alloc (zlr _) _
     have hc6:Blk W6 w5.heap.size FT #[.slice ca KK cc,.slice pa N pc]:=by rw[←hW6];exact z0h w5 FT _
     obtain⟨W7,hW7⟩:∃W7,W6.drew=W7:=⟨_,rfl⟩
     have hb7:Below W6.heap.size W6 W7:=by rw[←hW7];exact(zbr _ _).drew
     have hb57:Below w5.heap.size w5 W7:=hb6.trans (hb7.mono hb6.size);have hb37:Below w3.heap.size w3 W7:=hb5.trans (hb57.mono hb5.size);have HF7:=zh (hc6.ext hb7);have HS7:=zh (HS3.out.ext hb37);have HV7:=zh (HV3.out.ext hb37);have HB7:=zh (HB3.out.ext hb37);have HT7:Hid (Turn (fun i=>i=gr) w W7):=HT3.out.step (G:=fun _=>False) (q5w hb37) (fun _ hf _=>hf.elim);have HW7z:Hid (w.heap.size+2≤W7.heap.size∧w.heap.size+2≤w5.heap.size):=by have:=hb57.size;have:=hb5.size;have:=HW3.out;exact⟨by omega,by omega⟩
     have HStr:=zh (hstr.ext hb57);have HKi:=zh (x6m gr a n c P k o1 ca pa cc pc ks ps KK N ⟨slo,shi,sop⟩ deep lo hi W7 hKK hN (hts.below hb57 (zlr _)) (hps.below hb57 (zlr _)) hKN hK2 hN9 HSp.out hd1 hd9 Hd1.out (HL3.out.ext hb37) HB7.out HF1.out HI1.out);have HKN:Hid (ks.length=KK∧ps.length=N∧KK+1=N∧N≤504∧∀q∈ks,okK q=true):=⟨hKK,hN,hKN,hN9,hok⟩
     have hgw5:w.heap.size+2≤w5.heap.size:=HW7z.out.2;have q0:∀w',Turn (fun i=>i=gr∨i=w.heap.size+1) W7 w'→w'.cell? ⟨w5.heap.size,0,none⟩=some (.slice ca KK cc):=fun w' t=>by rw[(HF7.out.turn t (by omega)).cell];rfl
     have q1:∀w',Turn (fun i=>i=gr∨i=w.heap.size+1) W7 w'→w'.cell? ⟨w5.heap.size,1,none⟩=some (.slice pa N pc):=fun w' t=>by rw[(HF7.out.turn t (by omega)).cell];rfl
     have q2:∀w',Turn (fun i=>i=gr∨i=w.heap.size+1) W7 w'→w'.cell? ⟨w.heap.size,0,none⟩=some (.string slo):=fun w' t=>by rw[(HS7.out.turn t (by omega)).cell];rfl
     have q3:∀w',Turn (fun i=>i=gr∨i=w.heap.size+1) W7 w'→w'.cell? ⟨w.heap.size,1,none⟩=some (.string shi):=fun w' t=>by rw[(HS7.out.turn t (by omega)).cell];rfl
     have q4:∀w',Turn (fun i=>i=gr∨i=w.heap.size+1) W7 w'→w'.cell? ⟨w.heap.size,2,none⟩=some (.bool sop):=fun w' t=>by rw[(HS7.out.turn t (by omega)).cell];rfl
     have HW6:=zh hW6;have HW7:=zh hW7;clear hW6 hb6 hc6 hW7 hb7 hb57 hb37 hts hps hKN hK2 hN9 hKK hN hok hkr hk0 hstr hty hb5 hfs c1 c2 c3 d1 d2 d3 s0 s1 s2 HDe HT5 HI1 HSp HS3 HV3 HB3 HT3 HL3 HW3 Hsl Hb Hb8 Hd1 HF1;go_wp2_with fail;rw[HW6.out];refine(HM1.out _).mono ?_;rintro e w6 ⟨rfl,rfl⟩;go_wp2_with fail;refine z0k (F:=fun i=>i=gr∨i=w.heap.size+1) [(0,true),(1,true),(2,true),(3,true),(4,true),(5,true),(6,true),(7,false),(8,false),(9,false)] (by kernel_rfl) (by kernel_rfl) (by kernel_rfl) (by kernel_rfl) (fun _ _ _ _ _ h=>h) ?_;rw[HW7.out];iterate 7 (refine gtr (v:= ?_) rfl (by rfl) ?_ ?_;rotate_left;(intro w' hw';go_simp;with_reducible rfl);simp only[Act.put,zs0,zs1,zs2])
     clear q0 q1 q2 q3 q4;refine gtc rfl (by rfl) (fun K hK=> ?_);go_simp;dsimp only[Sp.v] at HKi;refine HKi.out.mono ?_;intro e w8 hq
     cases hlk:ldK (ldN P k) ks ps ⟨slo,shi,sop⟩ deep N o1 with
     | none=>
      rw[hlk] at hq HRb;obtain⟨rfl,ht⟩:=hq;have HT8:=zh (HT7.out.trans ht);clear ht hlk hK;go_wp2;rw[HRb.out];exact⟨rfl,rfl,HT8.out⟩
     | some z=>
      obtain⟨o2,ts⟩:=z;rw[hlk] at hq HRb;obtain⟨u,xs,h,rfl,hdd,hKd,hb8,ht8⟩:=hq;refine hK _ _ (ht8.mono (fun i hi _=> .inl hi)) ?_;clear hK K;have HT8s:Hid (W7.heap.size≤w8.heap.size):=ht8.size;have HT8:=zh (HT7.out.trans ht8);have hst8:=HStr.out.tur ht8 (TyF.one HB7.out) (by decide);have HV8:=zh (HV7.out.turn ht8 (fun e=>by omega));have HB8:=zh hb8;have hown:=hKd.own;have hxl:=hKd.xl;have hN9:=HKN.out.2.2.2.1;have hN1:=HKN.out.2.2.1;have hks1:=HKN.out.1;rw[←hxl] at hown;obtain⟨ga,gc,rfl,hes,_⟩:=z1u (E:=nodE) hown (by simp[nodE]);have HA:=zh (z8a m (.slice ca KK cc) ks ga xs.length gc xs w8 hst8 (by omega) rfl hes (by omega));have HKd:=zh hKd;have Hdd:=zh hdd;have HXl:=zh hxl;generalize xs.length=XN at*;clear ht8 hst8 hown hxl hes hKd hb8 hlk hdd;refine gtc rfl (by rfl) (fun K hK=> ?_);go_simp;refine HA.out.mono ?_;rintro e w9 ⟨x,nps,rfl,hxp,hxc,hxk,hxv,hnl,hvb,hb9⟩;refine hK _ _ (q5w hb9) ?_;clear hK K HA;have hkd:=HKd.out;have hz8:w.heap.size+2≤w8.heap.size:=znt HW7z.out.1 HT8s.out;have hst:NdS w9 (fun b=>b<w.heap.size+2) (h+1) lo hi x (.bran x.pg ks ts):=x6l (n:=N) (fv:=.slice ga XN gc) hz8 (fun i hi=>(hkd.new i hi).ext (zbr _ _) (fun b hb _=>by have:=HW7z.out.1;exact hb.imp_left (fun h=>by omega))) hb9 hxc hxk hxv (by rw[hnl];exact HXl.out) (fun i hi=>hvb i (by have:=HXl.out;omega)) (by rw[hks1];exact hN1) hkd.tl HKN.out.2.2.2.2 hkd.sz;rw[hxp] at hst;have hg:w9.heap[w.heap.size+1]? =some (.cells #[.int .i64 0,nilS,nilS,nilS] VT (0,0)):=HV8.out.ext hb9;have HT9:Hid (Turn (fun i=>i=gr) w w9):=HT8.out.step (G:=fun _=>False) (q5w hb9) (fun _ hf _=>hf.elim);have HB9:=zh (HB8.out.ext hb9);have Hst:=zh hst;have cc0:w9.cell? ⟨w.heap.size+1,0,none⟩=some (.int .i64 0):=by simp[World.cell?,hg]
      have cc1:w9.cell? ⟨w.heap.size+1,1,none⟩=some nilS:=by simp[World.cell?,hg]
      have cc2:w9.cell? ⟨w.heap.size+1,2,none⟩=some nilS:=by simp[World.cell?,hg]
      have cc3:w9.cell? ⟨w.heap.size+1,3,none⟩=some nilS:=by simp[World.cell?,hg]
      have f0:∀i,w9.frozen? ⟨w.heap.size+1,i,none⟩=false:=fun i=>by simp[World.frozen?,hg]
      have F0:=f0 0;have F1:=f0 1;have F2:=f0 2;have F3:=f0 3;have Hg:=zh hg;clear hg f0 hst hxp hxc hxk hxv hnl hvb hb9 hkd hz8;obtain⟨pg,ca',cn,cc',ka,kn,kc,pa',pn,pc'⟩:=x;dsimp only[NoV.c,NoV.k,NoV.p,NoV.v] at*;have Hp:=zh (z13 (x0:=.int .i64 (pg:Nat)) (x1:=.slice ca' cn cc') (x2:=.slice ka kn kc) (x3:=.slice pa' pn pc') Hg.out);have k0:(put4 w9 (w.heap.size+1) (.int .i64 (pg:Nat)) (.slice ca' cn cc') (.slice ka kn kc) (.slice pa' pn pc')).cell? ⟨w.heap.size+1,0,none⟩=some (.int .i64 (pg:Nat)):=by simp[World.cell?,Hp.out]
      have k1:(put4 w9 (w.heap.size+1) (.int .i64 (pg:Nat)) (.slice ca' cn cc') (.slice ka kn kc) (.slice pa' pn pc')).cell? ⟨w.heap.size+1,1,none⟩=some (.slice ca' cn cc'):=by simp[World.cell?,Hp.out]
      have k2:(put4 w9 (w.heap.size+1) (.int .i64 (pg:Nat)) (.slice ca' cn cc') (.slice ka kn kc) (.slice pa' pn pc')).cell? ⟨w.heap.size+1,2,none⟩=some (.slice ka kn kc):=by simp[World.cell?,Hp.out]
      have k3:(put4 w9 (w.heap.size+1) (.int .i64 (pg:Nat)) (.slice ca' cn cc') (.slice ka kn kc) (.slice pa' pn pc')).cell? ⟨w.heap.size+1,3,none⟩=some (.slice pa' pn pc'):=by simp[World.cell?,Hp.out]
      have tp:=z1r (w:=w9) (g:=w.heap.size+1) (x0:=.int .i64 (pg:Nat)) (x1:=.slice ca' cn cc') (x2:=.slice ka kn kc) (x3:=.slice pa' pn pc');have htF:Turn (fun i=>i=gr∨i=w.heap.size+1) w9 (put4 w9 (w.heap.size+1) (.int .i64 (pg:Nat)) (.slice ca' cn cc') (.slice ka kn kc) (.slice pa' pn pc')):=tp.mono (fun i hi _=> .inr hi);have hend:Hid (NdS (put4 w9 (w.heap.size+1) (.int .i64 (pg:Nat)) (.slice ca' cn cc') (.slice ka kn kc) (.slice pa' pn pc')) (fun b=>b<w.heap.size) (h+1) lo hi ⟨pg,ca',cn,cc',ka,kn,kc,pa',pn,pc'⟩ (.bran m ks ts)∧
        Blk (put4 w9 (w.heap.size+1) (.int .i64 (pg:Nat)) (.slice ca' cn cc') (.slice ka kn kc) (.slice pa' pn pc')) gr RDG (rdv (.slice a n c) o2.u o2.d)∧
        Turn (fun i=>i=gr) w (put4 w9 (w.heap.size+1) (.int .i64 (pg:Nat)) (.slice ca' cn cc') (.slice ka kn kc) (.slice pa' pn pc'))):=
       ⟨y9y Hst.out Hg.out,HB9.out.turn tp (fun e=>by omega),HT9.out.step tp (fun i hi hl=>by
        obtain rfl:i=w.heap.size+1:=hi;omega)⟩
      unfold put4 at k0 k1 k2 k3 hend htF;have HtF:=zh htF;clear htF tp;refine gtc rfl (by rfl) (fun K hK=> ?_);go_simp;refine hK _ _ HtF.out ?_;clear hK K cc0 cc1 cc2 cc3 F0 F1 F2 F3;refine z0z ?_;go_wp2_with fail;refine bodyPost_ret (v:=.agg #[.int .i64 (pg:Nat),.slice ca' cn cc',.slice ka kn kc,.slice pa' pn pc']) (by rw[z0c rfl];go_simp) rfl ?_;rw[HRb.out];exact⟨⟨pg,ca',cn,cc',ka,kn,kc,pa',pn,pc'⟩,h+1,rfl,(by have:=Hdd.out;omega),hend.out.1,hend.out.2.1,hend.out.2.2⟩
   ·rw[if_neg hk2] at HRk;have e2:((kd:Int)==2)=false:=beq_eq_false_iff_ne.2 (by omega);have HRn:=zh HRk;clear HRk HR2 hk1 hk2 s0 s1 s2;go_wp2_with fail;refine(HM0.out w3).mono ?_;rintro e w5 ⟨rfl,rfl⟩;go_wp2;rw[HRn.out];exact⟨rfl,rfl,HT3.out⟩
theorem y56 (gr:Nat)(a:Option Addr)(n c:Nat)(P:List (List Nat))(hn:P.length=n)(hn9:n≤1024):∀(f:Nat) (o:RO) (x:Int) (s:Sp) (deep:Int) (lo hi:SB) (w:World),SpB s lo hi→0≤o.d→1≤deep→deep+f≤100000→LdW w gr a P→Blk w gr RDG (rdv (.slice a n c) o.u o.d)→z1f o.u n≤f→
  Calls Tryz.prog 65 #[.pointer (some ⟨gr,0,none⟩),.int .i64 x,s.v,.int .i64 deep] w fun e w'=>NdQ w w' gr (.slice a n c) deep lo hi (ldN P f o x s deep) e
 | 0,o,x,s,deep,lo,hi,w,hs,h0,h1,h9,hL,hB,hf=>y1k gr a n c P 0 o x s deep lo hi w hn hn9 hs h0 h1 (by omega) hL hB hf (fun f' e=>by omega)
 | f+1,o,x,s,deep,lo,hi,w,hs,h0,h1,h9,hL,hB,hf=>y1k gr a n c P (f+1) o x s deep lo hi w hn hn9 hs h0 h1 (by omega) hL hB hf (fun f' e o x s lo hi w hs h0 hL hB hf=>by
  obtain rfl:f=f':=by omega
  exact y56 gr a n c P hn hn9 f o x s (deep+1) lo hi w hs h0 (by omega) (by omega) hL hB hf)
section
variable (P:List (List Nat))
theorem x6n {rp:RO→Int→Sp→Int→Option (RO×Tr)}{ks:List ByteArray}{ps:List Int}{s:Sp}{deep:Int}
  (ih:∀o p s o1 t,rp o p s (deep+1)=some (o1,t)→t.es.length+504*z1f o1.u P.length≤504*z1f o.u P.length):
  ∀(t:Nat) (o o1:RO) (ts:List Tr),ldK rp ks ps s deep t o=some (o1,ts)→(esL ts).length+504*z1f o1.u P.length≤504*z1f o.u P.length
 | 0,o,o1,ts,h=>by
  unfold ldK at h
  cases h
  simp[esL]
 | t+1,o,o1,ts,h=>by
  unfold ldK at h;split at h
  ·cases h
  ·split at h
   ·cases h
   ·rename_i o2 tr h2
    split at h
    ·cases h
    ·split at h
     ·cases h
     ·rename_i o3 ts2 h3
      cases h
      have a1:=ih _ _ _ _ _ h2;have a2:=x6n ih t o2 o1 ts2 h3;rw[esL,zla];omega
theorem x6o:∀(f:Nat) (o:RO) (page:Int) (s:Sp) (deep:Int) (o1:RO) (t:Tr),ldN P f o page s deep=some (o1,t)→t.es.length+504*z1f o1.u P.length≤504*z1f o.u P.length
 | 0,o,page,s,deep,o1,t,h=>by unfold ldN at h;cases h
 | f+1,o,page,s,deep,o1,t,h=>by
  unfold ldN at h;split at h
  ·cases h
  ·rename_i o2 k b ho
   obtain⟨g1,_,_⟩:=z45 P ho;split at h
   ·split at h
    ·cases h
    ·split at h
     ·cases h
     ·rename_i cs hcs
      split at h
      ·cases h
      ·split at h
       ·cases h
       ·rename_i o3 es hc
        cases h
        obtain⟨c1,c2,c3,c4⟩:=z46 hcs;obtain⟨d1,d2,_⟩:=z4x P f s cs _ o1 es hc c2;have h1:=d2.free P.length;have h2:z1f o1.u P.length≤z1f o2.u P.length:=h1;have h3:=y2f hcs;show es.length+_≤_;omega
   ·split at h
    ·split at h
     ·cases h
     ·split at h
      ·cases h
      ·rename_i _ ks ps hfs _ o3 ts hk
       cases h
       have h1:=x6n P (fun o p s o1 t b=>x6o f o p s (deep+1) o1 t b) _ o2 o1 ts hk;rw[Tr.es];omega
    ·cases h
end
abbrev RO0:RO:=⟨[],fun _=>false,0⟩
abbrev Sp0:Sp:=⟨ByteArray.empty,ByteArray.empty,true⟩
noncomputable def ldT (P:List (List Nat)) (root:Int):Option (List Tr×Nat):=if root=0 then some ([],0) else (ldN P P.length RO0 root Sp0 1).map (fun z=>([z.2],z.1.d.toNat))
def TrQ (w w':World)(gr:Nat)(x:Option (List Tr×Nat))(e:Ending):Prop:=match x with
 | none=>e=.panicked CP∧Turn (fun i=>i=gr) w w'
 | some (ts,H)=>∃p,e=.returned (.agg #[.pointer p,.int .i64 ((esL ts).length:Nat)])∧z0y w' p ts H∧Turn (fun i=>i=gr) w w'
set_option maxRecDepth 100000 in
theorem x6p (gr:Nat)(a:Option Addr)(n c:Nat)(P:List (List Nat))(root:Int)(w:World)(hn:P.length=n)(hn9:n≤1024)(hL:LdW w gr a P)(hB:Blk w gr RDG (rdv (.slice a n c) RO0.u RO0.d)):
  Calls Tryz.prog 38 #[.pointer (some ⟨gr,0,none⟩),.int .i64 root] w fun e w'=>TrQ w w' gr (ldT P root) e:=by
 obtain⟨W,hW,hT,hb⟩:=z0b w TT #[.pointer none,.int .i64 0];have hgw:=hB.lt;have HW:=zh hW;have HB:=zh hb;have HV:=zh (show Blk W w.heap.size TT #[.pointer none,.int .i64 0] from hT)
 by_cases h0:root=0
 ·subst h0;have e0:ldT P 0=some ([],0):=by unfold ldT;rw[if_pos rfl]
  rw[e0];clear hW hT hb e0 hL hB HV
  go_enter Tryz.func38,Tryz.ntmps38
  go_wp2_with fail;refine bodyPost_ret (v:=.agg #[.pointer none,.int .i64 0]) (by rw[z0c rfl];go_simp) rfl ?_;rw[HW.out];exact⟨none,rfl,z0y.none _,q5w HB.out⟩
 ·have e0:ldT P root=(ldN P P.length RO0 root Sp0 1).map (fun z=>([z.2],z.1.d.toNat)):=by unfold ldT;rw[if_neg h0]
  have e1:(root==0)=false:=beq_eq_false_iff_ne.2 h0;rw[e0];have HN:=zh (y56 gr a n c P hn hn9 P.length RO0 root Sp0 1 none none W ⟨rfl,rfl⟩ (Int.le_refl _) (Int.le_refl _) (by omega) (hL.ext hb) (hB.ext hb) (by rw[hn];exact y2e _ _));dsimp only[Sp.v,Sp0] at HN;have HFa:=zh (fun o1 t h=>z6u P P.length RO0 root Sp0 1 o1 t (Int.le_refl _) (Int.le_refl _) h);have HLe:=zh (fun o1 t h=>x6o P P.length RO0 root Sp0 1 o1 t h);have Hul:=zh (show z1f RO0.u P.length≤1024 from Nat.le_trans (y2e _ _) (by rw[hn];exact hn9));clear hW hT hb e0 hL hB hn h0
  go_enter Tryz.func38,Tryz.ntmps38
  go_wp2_with fail;rw[HW.out];refine HN.out.mono ?_;intro e w3 hq
  cases hl:ldN P P.length RO0 root Sp0 1 with
  | none=>
   rw[show ldN P P.length RO0 root ⟨ByteArray.empty,ByteArray.empty,true⟩ 1=none from hl] at hq;obtain⟨rfl,ht⟩:=hq;have HT3:Hid (Turn (fun i=>i=gr) w w3):=(q5w HB.out).trans ht;have Hl:=zh hl;clear ht hl;go_wp2;rw[Hl.out];exact⟨rfl,rfl,HT3.out⟩
  | some z=>
   obtain⟨o1,t⟩:=z;rw[show ldN P P.length RO0 root ⟨ByteArray.empty,ByteArray.empty,true⟩ 1=some (o1,t) from hl] at hq;obtain⟨v,h,rfl,hd,hst,hbk,ht⟩:=hq;obtain⟨h',hF,_⟩:=HFa.out o1 t hl;have hh:h'=h:=by have:=hF.d;omega
   subst hh;have hlen:t.es.length≤1000000:=by have:=HLe.out o1 t hl;have:=Hul.out;omega
   have HO:=zh (y9g v t w3 hst.now hF.sz hF.sz3 hF.ne hlen);have HT3:Hid (Turn (fun i=>i=gr) w w3):=(q5w HB.out).trans ht;have HV3:=zh (HV.out.turn ht (fun e=>by omega));have Hd:Hid (o1.d.toNat=h'+1):=by show _=_;omega
   have Hl:=zh hl;clear hl hd hst hbk ht hF hlen;go_wp2_with fail;refine HO.out.mono ?_;rintro e w4 ⟨p,rfl,htr,hb4⟩;have hv4:=HV3.out.ext hb4;have c0:w4.cell? ⟨w.heap.size,0,none⟩=some (.pointer none):=by rw[hv4.cell];rfl
   have c1:w4.cell? ⟨w.heap.size,1,none⟩=some (.int .i64 0):=by rw[hv4.cell];rfl
   have f0:=hv4.fz 0;have f1:=hv4.fz 1;have h2:=(hv4.set 0 (.pointer p)).set 1 (.int .i64 (t.es.length:Nat));have k0:((w4.setCell ⟨w.heap.size,0,none⟩ (.pointer p)).setCell ⟨w.heap.size,1,none⟩ (.int .i64 (t.es.length:Nat))).cell? ⟨w.heap.size,0,none⟩=some (.pointer p):=by rw[h2.cell];rfl
   have k1:((w4.setCell ⟨w.heap.size,0,none⟩ (.pointer p)).setCell ⟨w.heap.size,1,none⟩ (.int .i64 (t.es.length:Nat))).cell? ⟨w.heap.size,1,none⟩=some (.int .i64 (t.es.length:Nat)):=by rw[h2.cell];rfl
   have tp:Turn (fun i=>i=w.heap.size) w4 ((w4.setCell ⟨w.heap.size,0,none⟩ (.pointer p)).setCell ⟨w.heap.size,1,none⟩ (.int .i64 (t.es.length:Nat))):=((Turn.refl (fun i=>i=w.heap.size) w4).setCell _ (fun _=>rfl)).setCell _ (fun _=>rfl);have Htr:=zh (htr.turn tp (TF.var hv4));have Ht:Hid (Turn (fun i=>i=gr) w ((w4.setCell ⟨w.heap.size,0,none⟩ (.pointer p)).setCell ⟨w.heap.size,1,none⟩ (.int .i64 (t.es.length:Nat)))):=(HT3.out.step (G:=fun _=>False) (q5w hb4) (fun _ hf _=>hf.elim)).step tp (fun i hi hl=>by
    obtain rfl:i=w.heap.size:=hi;omega)
   clear hv4 h2 tp htr hb4;go_wp2_with fail;refine bodyPost_ret (v:=.agg #[.pointer p,.int .i64 (t.es.length:Nat)]) (by rw[z0c rfl];go_simp) rfl ?_;rw[Hl.out];show TrQ _ _ _ (some ([t],o1.d.toNat)) _;exact⟨p,(by rw[show esL [t]=t.es by simp[esL]]),(by rw[Hd.out];exact Htr.out),Ht.out⟩
theorem RoR.at {w:World}{g:Nat}{l:List Nat}:∀{gs:List Nat} {P:List (List Nat)} {i:Nat},RoR w gs P→gs[i]? =some g→P[i]? =some l→Row w g 5 l∧l.length=512∧B8 l
 | _::_,_::_,0,h,h1,h2=>by
  simp only[List.getElem?_cons_zero,Option.some.injEq] at h1 h2;subst h1 h2;exact h.1
 | _::_,_::_,k+1,h,h1,h2=>RoR.at (i:=k) h.2 (by simpa using h1) (by simpa using h2)
 | [],[],_,_,h1,_=>by simp at h1
 | [],_::_,_,h,_,_=>h.elim
 | _::_,[],_,h,_,_=>h.elim
def PV (w:World)(v:Value)(P:List (List Nat)):Prop:=∃gs,EV rowE w v gs∧RoR w gs P
theorem PV.ext {w w':World}{v:Value}{P:List (List Nat)}(h:PV w v P)(hb:Below w.heap.size w w'):PV w' v P:=by
 obtain⟨gs,h1,h2⟩:=h;exact⟨gs,h1.ext hb,h2.below hb (zlr _)⟩
theorem PV.arg {w:World}{v:Value}{P:List (List Nat)}(h:PV w v P):∃a c,v=.slice a P.length c∧PgIn w a P∧(0<P.length→∃g o,a=some ⟨g,o,none⟩):=by
 obtain⟨gs,⟨a,c,rfl,hs,_⟩,hr⟩:=h;have hl:=hr.len;refine⟨a,c,by rw[hl],fun i hi=> ?_,fun h0=> ?_⟩
 ·obtain⟨g,o,e,hc⟩:=hs.at (by omega);have h1:gs[i]? =some (gs[i]'(by omega)):=List.getElem?_eq_getElem (by omega);have h2:P[i]? =some (P[i]'hi):=List.getElem?_eq_getElem hi;obtain⟨h3,h4,h5⟩:=hr.at h1 h2;have h6:=hc (i*1) (.slice (some ⟨gs[i]'(by omega),0,none⟩) 512 512) (by
   have h:=rowE.row_at gs i 0 _ h1 (by decide);exact h)
  rw[Nat.mul_one] at h6;have e3:P.getD i []=P[i]'hi:=by rw[List.getD_eq_getElem?_getD,h2];rfl
  exact⟨g,o,_,e,h6,by rw[e3];exact⟨⟨_,512,by rw[h4],z8w h3,by omega,by decide⟩,h5⟩⟩
 ·obtain⟨g,o,e,_⟩:=hs.at (by omega);exact⟨g,o,e⟩
theorem q0w (n:Nat)(w:World)(hn:n≤2000):Calls Tryz.prog 11 #[.int .i64 n] w fun e w'=>∃u,e=.returned u∧PV w' u (List.replicate n (List.replicate 512 0))∧Below w.heap.size w w':=by
 refine(x1b n w hn).mono ?_;rintro e w' ⟨u,gs,rfl,h1,h2,h3⟩;have hl:=h2.len;rw[List.length_replicate] at hl;subst hl;exact⟨u,rfl,⟨gs,z1u h1,h2⟩,h3⟩
theorem q3m (u vw:Value)(P:List (List Nat))(ws:List PgW)(w:World)(hP:PV w u P)(hn:P.length≤2000)(h0:0<P.length)(hw:WV w vw ws)(hm:ws.length≤100000)(hp:∀x∈ws,2≤x.1∧x.1<P.length):
  Calls Tryz.prog 10 #[u,vw] w fun e w'=>∃u',e=.returned u'∧PV w' u' (layP P ws)∧Below w.heap.size w w':=by
 obtain⟨gs,⟨a,c,rfl,hs,_⟩,hr⟩:=hP;obtain⟨hs2,⟨b,d,rfl,hs3,_⟩,hr2⟩:=hw;have hl:=hr.len;have hl2:=hr2.len;refine(x9a a c gs P b d hs2 ws w gs.length hs2.length rfl (by omega) (by omega) hs hr rfl (by omega) hs3 hr2 (fun x hx=>⟨(hp x hx).1,by rw[hl];exact(hp x hx).2,hr2.b x hx⟩)).mono ?_;rintro e w' ⟨u',gs',rfl,h1,h2,h3⟩;have hl3:=h2.len;rw[z6y] at hl3;refine⟨u',rfl,⟨gs',z1u (T:=SBT) (by rw[hl3,←hl];exact h1),h2⟩,h3⟩
end Go.Proofs.YtdnfhjfbanhhcaaGreatDoor
namespace Go.Proofs.YtdnfhjfbanhhcaaGreatDoor
open Go.RowKit
theorem x9u {PL:List (List Nat)}{h:Nat}{t:Tr}(hk:TOk h none none t)(hz:t.sz≤504)(hz3:0<h→3≤t.sz)(hne:t.es≠[])(hL:LieI (pgF PL) [t])(hlt:∀p∈uL [t],p<PL.length)(hlen:h+6≤PL.length):ldT PL ((t.pg:Nat):Int)=some ([t],h+1):=by
 have hpg:t.pg≠0:=hL.pg t (by simp);have hu:uL [t]=uT t:=by unfold uL uT;rw[z1s];simp[pgsL]
 have hon:=hL.on;rw[onL] at hon;have hes:=hL.ce;rw[z1s] at hes;obtain⟨o1,g1,g2⟩:=x6g PL h PL.length none none t RO0 Sp0 1 hk hz (fun h=>by omega) hz3 (fun _=>hne)
  ⟨hon.1,hpg,hes,fun p hp=>by have:=hL.rg p (by rw[hu];exact hp);exact⟨this.1,this.2,hlt p (by rw[hu];exact hp)⟩,fun p=>by have:=hL.one p;rw[z2r,z5t] at this;omega,fun _ _=>rfl⟩ ⟨rfl,rfl⟩ hlen (by omega) (Int.le_refl _) (.inl rfl)
 unfold ldT;rw[if_neg (by omega),g1];simp only[Option.map_some,Option.some.injEq,Prod.mk.injEq,true_and];omega
theorem y1l {PL:List (List Nat)}{w:World}{p:Option Addr}{us:List Tr}{H:Nat}(ht:z0y w p us H)(hL:LieI (pgF PL) us)(hlt:∀p∈uL us,p<PL.length)(hlen:H+5≤PL.length):
  ldT PL (((us.headD (.leaf 0 [])).pg:Nat):Int)=some (us,H):=by
 rcases z14 ht with ⟨_,rfl,rfl⟩|⟨b,h,t,v,_,rfl,_,hnv,hz,hz3,hne,rfl⟩
 ·unfold ldT;rfl
 ·obtain⟨W,_,hn,_⟩:=hnv.nd;exact x9u (q50 h hn) hz hz3 hne hL hlt (by omega)
theorem y57 {w:World}{p:Option Addr}{us:List Tr}{H:Nat}(ht:z0y w p us H)(hl:(esL us).length≤100000):H≤18:=by
 rcases z14 ht with ⟨_,rfl,rfl⟩|⟨b,h,t,v,_,rfl,_,hnv,hz,hz3,hne,rfl⟩
 ·omega
 ·obtain⟨W,_,hn,_⟩:=hnv.nd;rw[z1s] at hl;have h1:=y7u h (q50 h hn) hz3 (fun _=>hne)
  rcases zng 17 h with h2|h2
  ·have:=Nat.pow_le_pow_right (n:=2) (by omega) (show 18≤h from h2);omega
  ·omega
theorem y58 {PL:List (List Nat)}(hlen:30≤PL.length){w:World}{p:Option Addr}{us:List Tr}{H:Nat}(ht:z0y w p us H)(hl:(esL us).length≤100000)(hL:LieI (pgF PL) us)(hlt:∀p∈uL us,p<PL.length):
  ldT PL (((us.headD (.leaf 0 [])).pg:Nat):Int)=some (us,H):=y1l ht hL hlt (by have:=y57 ht hl;omega)
end Go.Proofs.YtdnfhjfbanhhcaaGreatDoor
namespace Go.Proofs.YtdnfhjfbanhhcaaGreatDoor
open Go Go.RowKit
abbrev ERT:TypeId:=34
theorem q3n (p q:Addr)(w:World):
  CallsD Tryz.prog 37 #[.pointer (some p),.pointer (some q)] .returning w fun e u' w'=>e=.returned (.tuple #[])∧u'=.returning∧w'=w:=by
 refine callsD_of_wpS Tryz.func37 rfl fun c₀ cs hu=> ?_
 apply wpS_seq;apply wpS_region;simp[wpOpsS,go_sem,recoverD,hu,Tryz.ntmps37,Exit.thenS];apply wpS_seq;apply wpS_region;simp[wpOpsS,go_sem,Exit.thenS,Array.replicate];refine wpS_cond (t:=false) (by simp[Act.eval]) ?_;simp only[Bool.false_eq_true,if_false];refine wpS_of_wp (wp_skip ?_)
 cases c₀
 simp_all [bodyPostS,results,Tryz.results37]
theorem x9v (w:World):(Instr.typeAssert (.iface 94 (.int .i64 16)) 20 94 false).run Tryz.prog w=.ok (.int .i64 16) w:=by kernel_rfl
abbrev CPr:List PanicEntry:=[{v:=.iface 94 (.int .i64 16),recovered:=true}]
theorem y9z (b0 b1:Nat)(w:World)(h0:Blk w b0 TT #[.pointer none,.int .i64 0])(h1:Blk w b1 ERT #[.nilIface]):
  CallsD Tryz.prog 37 #[.pointer (some ⟨b0,0,none⟩),.pointer (some ⟨b1,0,none⟩)] (.panicking CP) w fun e u' w'=>e=.returned (.tuple #[])∧u'=.panicking CPr∧Blk w' b0 TT #[.pointer none,.int .i64 0]∧Blk w' b1 ERT #[.iface 94 (.int .i64 16)]∧Turn (fun i=>i=b0∨i=b1) w w':=by
 refine callsD_of_wpS Tryz.func37 rfl fun c₀ cs hu=> ?_
 apply wpS_seq;apply wpS_region;simp[wpOpsS,go_sem,recoverD,hu,Tryz.ntmps37,Exit.thenS];apply wpS_seq;apply wpS_region;simp[wpOpsS,go_sem,Exit.thenS,Array.replicate];refine wpS_cond (t:=true) (by simp[Act.eval]) ?_;simp only[if_true];refine wpS_of_wp ?_;refine z0k (F:=fun i=>i=b0∨i=b1) [(0,true),(1,true),(2,true),(3,true),(4,false),(5,false)] (by kernel_rfl) (by kernel_rfl) (by kernel_rfl) (by kernel_rfl) (fun _ _ _ _ _ h=>h) ?_;have hbd:Below w.heap.size w w.drew:=(zbr _ _).drew;have H0:=zh (h0.ext hbd);have H1:=zh (h1.ext hbd);have HT:=zh (q5w (F:=fun i=>i=b0∨i=b1) hbd);have hne:b1≠b0:=fun e=>by
  subst e;have h2:w.heap[b1]? =_:=h0;have h3:w.heap[b1]? =_:=h1;rw[h2] at h3;injection h3 with h3
  injection h3 with _ h3 _
  exact absurd h3 (by decide)
 have Hu:=zh hu;clear h0 h1 hbd hu;generalize w.drew=w2 at*;have c0:w2.cell? ⟨b0,0,none⟩=some (.pointer none):=by rw[H0.out.cell];rfl
 have c1:w2.cell? ⟨b0,1,none⟩=some (.int .i64 0):=by rw[H0.out.cell];rfl
 have f0:=H0.out.fz 0;have f1:=H0.out.fz 1;have tp:Turn (fun i=>i=b0) w2 ((w2.setCell ⟨b0,0,none⟩ (.pointer none)).setCell ⟨b0,1,none⟩ (.int .i64 0)):=((Turn.refl (fun i=>i=b0) w2).setCell _ (fun _=>rfl)).setCell _ (fun _=>rfl);have H2:=zh ((H0.out.set 0 (.pointer none)).set 1 (.int .i64 0));have H3:=zh (H1.out.turn tp hne);have Htp:=zh tp;clear tp;have hta:=x9v;iterate 4 (refine gtr (v:= ?_) rfl (by rfl) ?_ ?_;rotate_left;(intro w' hw';go_simp;with_reducible rfl);simp only[Act.put,zs0,zs1,zs2])
 refine gtc rfl (by rfl) (fun K hK=> ?_);go_simp;refine hK _ _ (Htp.out.mono (fun i hi _=> .inl hi)) ?_;clear hK K c0 c1 f0 f1;have c2:((w2.setCell ⟨b0,0,none⟩ (.pointer none)).setCell ⟨b0,1,none⟩ (.int .i64 0)).cell? ⟨b1,0,none⟩=some .nilIface:=by rw[H3.out.cell];rfl
 have f2:=H3.out.fz 0;have tq:Turn (fun i=>i=b1) ((w2.setCell ⟨b0,0,none⟩ (.pointer none)).setCell ⟨b0,1,none⟩ (.int .i64 0)) (((w2.setCell ⟨b0,0,none⟩ (.pointer none)).setCell ⟨b0,1,none⟩ (.int .i64 0)).setCell ⟨b1,0,none⟩ (.iface 94 (.int .i64 16))):=(Turn.refl (fun i=>i=b1) _).setCell _ (fun _=>rfl);have H4:=zh (H3.out.set 0 (.iface 94 (.int .i64 16)));have H5:=zh (H2.out.turn tq (fun e=>hne e.symm));have Htq:=zh tq;clear tq;refine gtc rfl (by rfl) (fun K hK=> ?_);go_simp;refine hK _ _ (Htq.out.mono (fun i hi _=> .inr hi)) ?_;clear hK K c2 f2;refine z0z ?_;have hend:=zai H5.out (zai H4.out ((HT.out.step Htp.out (fun i hi _=> .inl hi)).step Htq.out (fun i hi _=> .inr hi)));simp[bodyPostS,results,Tryz.results37];exact hend
end Go.Proofs.YtdnfhjfbanhhcaaGreatDoor
