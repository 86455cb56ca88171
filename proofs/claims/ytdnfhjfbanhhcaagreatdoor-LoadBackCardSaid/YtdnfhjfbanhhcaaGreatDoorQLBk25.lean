/-
  Steps.
-/
import Derived.Test.YtdnfhjfbanhhcaaGreatDoorQLBk24
namespace Go.Proofs.YtdnfhjfbanhhcaaGreatDoor
open Go Go.RowKit
def z8o (w:World)(h:Nat)(lo hi:SB)(ks:List ByteArray)(ts:List Tr)(A:Nat)(t':Tr)(e:Ending)(w':World):Prop:=
 ∃b2 ks2 ps2 ts2,e=.returned (pt b2)∧z5g w' b2 0 ks2 ps2∧KRow (z09 w' h) ks2 lo hi ps2 ts2∧(esL ts2=esL (ts.take A)++(t'.es++esL (ts.drop (A+1)))∧(t'.pg=0→Fr (ts.take A++([t']++ts.drop (A+1))) ts2 1))∧brSz ks2≤brSz ks+43∧brSz ks≤brSz ks2+43∧Below w.heap.size w w'
set_option maxHeartbeats 4000000 in
set_option maxRecDepth 100000 in
theorem y2u {h:Nat}{lo hi:SB}(b:Nat)(ks:List ByteArray)(ps:List Nat)(ts:List Tr)(A:Nat)(p:Nat)(t':Tr)(s':Nat)(w:World)(hb:Bran w b ks ps)(hr:KRow (z09 w h) ks lo hi ps ts)(hl1:1≤ks.length)(hbr:brSz ks≤504)(hA:A≤ks.length)(hn:NdT w h (lob lo ks A) (hib hi ks A) p t')(hsz:t'.sz=s')(h126:126≤s')(hs:s'≤660):
  Calls Tryz.prog 110 #[pt b,.int .i64 A,pt p] w fun e w'=>z8o w h lo hi ks ts A t' e w':=by
 have hok:=hr.factsT.2.2.2;have Hsz:=zh hsz;have Hsn:Hid (∀w1,Below w.heap.size w w1→Calls Tryz.prog 144 #[pt p] w1 fun e w'=>e=.returned (.int .i64 (s':Nat))∧Below w1.heap.size w1 w'):=fun w1 hb1=>by
  have h1:=z3x w1 (NdT.nd h (NdT.ext hb1 h hn)) (by omega)
  rwa [hsz] at h1
 have hle:=hr.len;have hkl:ks.length≤126:=by have:=z0u hok;unfold brSz at hbr;omega
 obtain⟨vk,vp,nb,⟨a0,c,rfl,s0,_,hnc,hcm⟩,⟨a1,d,rfl,s1,_,hmd,hdm⟩⟩:=hb;obtain⟨g,o,rfl,hcell⟩:=s0.texts (by omega);obtain⟨g2,o2,rfl,_⟩:=s1.ptrs (by omega);obtain⟨gp,w0,hgp,hw0,hc0,hb0⟩:=z0t w PNT #[pt p];have q2:w.cell? ⟨b,3,none⟩=some (.slice (some ⟨g2,o2,none⟩) ps.length d):=nb.c3;have hs0:ES ptrE w0 (some ⟨gp,0,none⟩) [p]:=ES.lit (E:=ptrE) (l:=[p]) hc0;have Hspl:=zh (z49 (some ⟨g2,o2,none⟩) ps.length d ps A 1 (some ⟨gp,0,none⟩) 1 1 [p] w0 rfl (s1.below hb0 (zlr _)) hmd hdm (fun h=>by cases h) (by omega) rfl (fun h=>by cases h) hs0 (by omega) (by omega));have HG:=zh (zai hgp hw0);have HB:=zh hb0;have Hlen:=zh (y7d ps p A (by omega));have Hn:=zh hn;have Hnb:=zh nb;have Hr:=zh hr;have HS:=zh (zai s0 (zai hnc hcm));have HC:=zh hcell;have Hle:=zh hle;have Hen:=zh (fun w=>z48 ((s':Nat):Int) w);rw[zdt (show(126:Int)≤(s':Int) by omega)] at Hen;have hcm':c≤9223372036854775807:=by unfold maxLen at hcm;omega
 obtain⟨n,hkn⟩:∃n,ks.length=n:=⟨_,rfl⟩
 obtain⟨m,hpm⟩:∃m,ps.length=m:=⟨_,rfl⟩
 have HL:=zh (zai hkn hpm);rw[hpm] at q2 Hspl;rw[hkn,hpm] at Hnb hle;rw[hkn] at HS HC hnc hl1 hkl;rw[hkn] at hA;have hmn1:m≤n+1:=by omega
 have hmn2:n+1≤m:=by omega
 clear hsz hle hok hr hn nb s0 s1 hcell hmd hdm hcm hgp hw0 hc0 hb0 hs0 hkn hpm hbr
 go_enter Tryz.func110,Tryz.ntmps110
 go_wp2_with fail;rw[HG.out.1,HG.out.2];refine Hspl.out.mono ?_;rintro e w1 ⟨v,rfl,⟨a3,c3,rfl,s3,z3,hn3,hm3⟩,hb1⟩;replace HB:=zh (HB.out.trans (hb1.mono HB.out.size));rw[Hlen.out,HL.out.2] at hn3⊢
 have HS3:=zh (zai s3 (zai z3 (zai hn3 hm3)));clear Hspl HG q2 s3 z3 hn3 hm3 hb1;go_wp2_with fail;refine(Hsn.out w1 HB.out).mono ?_;rintro e w2 ⟨rfl,hb2⟩;replace HS3:=zh (zai (HS3.out.1.below hb2 (zlr _)) HS3.out.2);replace HB:=zh (HB.out.trans (hb2.mono HB.out.size));clear hb2;go_wp2_with fail;refine(Hen.out w2).mono ?_;rintro e w' ⟨rfl,rfl⟩;clear Hen;have Hk:=zh (zai (NdT.ext HB.out h Hn.out) (zai (show 126≤t'.sz by have:=Hsz.out;omega) (show t'.sz≤700 by have:=Hsz.out;omega)));have q1:∀w',Below w.heap.size w w'→w'.cell? ⟨b,2,none⟩=some (.slice (some ⟨g,o,none⟩) n c):=fun w' hx=>(Hnb.out.ext hx).c2
 have Hq1:=zh q1;clear q1;go_wp2_with fail;refine(z37 w2 Hk.out.1 Hk.out.2.1 Hk.out.2.2).mono ?_;rintro e w4 ⟨vp,vk,ks',ps',ts',rfl,⟨ap,cp,rfl,sp,zp,_⟩,⟨ak,ck,rfl,sk,zk,_⟩,hr',hfl,hk1,hb4⟩;replace HS3:=zh (zai (HS3.out.1.below hb4 (zlr _)) HS3.out.2);replace HB:=zh (HB.out.trans (hb4.mono HB.out.size));have hle':=hr'.len;have q1:=Hq1.out w4 HB.out;have HsS:=zh (y2o (some ⟨g,o,none⟩) n c ks A 0 ak ks'.length ck ks' w4 HL.out.1 (HS.out.1.below HB.out (zlr _)) hnc HS.out.2.2 (fun h=>by cases h) (by omega) rfl zk sk (by omega) (by omega));have HsP:=zh (zai sp zp);have Hr':=zh hr';have Hfl:=zh hfl;obtain⟨nk,hnk⟩:∃n,ks'.length=n:=⟨_,rfl⟩
 obtain⟨np,hnp⟩:∃n,ps'.length=n:=⟨_,rfl⟩
 have HLn:=zh (zai hnk hnp);rw[hnk] at HsS hk1⊢
 rw[hnp] at⊢
 have hnp2:np≤2:=by omega
 clear hb4 hle' sp zp sk zk hr' hfl hnk hnp Hk Hn;go_wp2_with fail;refine HsS.out.mono ?_;rintro e w5 ⟨vS,rfl,⟨aS,cS,rfl,eS,rS⟩,hb5⟩;replace HS3:=zh (zai (HS3.out.1.below hb5 (zlr _)) HS3.out.2);replace HsP:=zh (zai (HsP.out.1.below hb5 (zlr _)) HsP.out.2);replace HB:=zh (HB.out.trans (hb5.mono HB.out.size));replace Hr':Hid (KRow (z09 w5 h) ks' (lob lo ks A) (hib hi ks A) ps' ts'):=Hr'.out.mono (fun _ _ _ _ hg=>z09.ext hb5 hg);have HeS:=zh (zai eS rS);have HPp:=zh (z49 a3 m c3 (ps.take A++([p]++ps.drop (A+1))) A 1 ap np cp ps' w5 (by rw[Hlen.out,HL.out.2]) HS3.out.1 HS3.out.2.2.1 HS3.out.2.2.2 HS3.out.2.1 (by omega) HLn.out.2 HsP.out.2 HsP.out.1 (by omega) (by omega));obtain⟨NS,hNS⟩:∃N,(ks.take A++(ks'++ks.drop (A+0))).length=N:=⟨_,rfl⟩
 have HNS:=zh hNS;rw[hNS];clear hb5 eS rS HsS hNS q1;go_wp2_with fail;refine HPp.out.mono ?_;rintro e w6 ⟨vP,rfl,⟨aP,cP,rfl,eP,rP⟩,hb6⟩;replace HeS:=zh (zai (HeS.out.1.below hb6 (zlr _)) HeS.out.2);replace HB:=zh (HB.out.trans (hb6.mono HB.out.size));replace Hr':Hid (KRow (z09 w6 h) ks' (lob lo ks A) (hib hi ks A) ps' ts'):=Hr'.out.mono (fun _ _ _ _ hg=>z09.ext hb6 hg);have HeP:=zh (zai eP rP);obtain⟨NP,hNP⟩:∃N,((ps.take A++([p]++ps.drop (A+1))).take A++(ps'++(ps.take A++([p]++ps.drop (A+1))).drop (A+1))).length=N:=⟨_,rfl⟩
 have HNP:=zh hNP;rw[hNP];clear hb6 eP rP HPp hNP HsP HS3;obtain⟨gN,wN,hgN,hwN,hnbN,hbN⟩:=z0r w6 nilS (.slice aS NS cS) (.slice aP NP cP);have HGN:=zh (zai hgN hwN);have HbN:=zh hbN;have HnbN:=zh hnbN;replace HB:=zh (HB.out.trans (hbN.mono HB.out.size));clear hgN hwN hnbN hbN;go_wp2;rw[HGN.out.1,HGN.out.2];go_ret;have hfin:=y2q Hr.out HB.out (i:=A) (j:=A) (by omega) (by have:=HL.out.1;omega) (by omega) (Hr'.out.mono (fun _ _ _ _ hg=>z09.ext HbN.out hg)) (by rw[HLn.out.1];exact hk1);have hbran:z5g wN gN 0 (ks.take A++(ks'++ks.drop A)) (ps.take A++(ps'++ps.drop (A+1))):=by
  rw[Nat.add_zero] at HNS HeS;refine⟨_,_,HnbN.out,⟨aS,cS,by rw[HNS.out],HeS.out.1.below HbN.out (zlr _),by rw[HNS.out];rw[HNS.out] at HeS;exact HeS.out.2⟩,?_⟩;have e3:=HeP.out;have hN2:=HNP.out;rw[y2r ps p A A (by have:=HL.out.2;have:=Hle.out;omega) (by omega),y2s ps p _ A (by have:=HL.out.2;have:=Hle.out;omega) (by omega)] at e3 hN2;exact⟨aP,cP,by rw[hN2],e3.1.below HbN.out (zlr _),e3.2⟩
 refine⟨gN,_,_,_,rfl,hbran,hfin.1,⟨?_,fun h0=> ?_⟩,hfin.2.1,hfin.2.2,HB.out⟩
 ·rw[z2x,z2x,Hfl.out.1]
 ·exact((Fr.refl _).app ((Hfl.out.2.fr h0).app (Fr.refl _))).mono (by omega)
set_option maxHeartbeats 4000000 in
set_option maxRecDepth 100000 in
theorem y5b {h:Nat}{lo hi:SB}(b:Nat)(ks:List ByteArray)(ps:List Nat)(ts:List Tr)(p:Nat)(t':Tr)(s':Nat)(w:World)(hb:Bran w b ks ps)(hr:KRow (z09 w h) ks lo hi ps ts)(hl1:1≤ks.length)(hbr:brSz ks≤504)(hn:NdT w h (lob lo ks 0) (hib hi ks 0) p t')(hsz:t'.sz=s')(h126:s'<126):
  Calls Tryz.prog 110 #[pt b,.int .i64 0,pt p] w fun e w'=>z8o w h lo hi ks ts 0 t' e w':=by
 have hok:=hr.factsT.2.2.2;have Hsz:=zh hsz;have Hsn:Hid (∀w1,Below w.heap.size w w1→Calls Tryz.prog 144 #[pt p] w1 fun e w'=>e=.returned (.int .i64 (s':Nat))∧Below w1.heap.size w1 w'):=fun w1 hb1=>by
  have h1:=z3x w1 (NdT.nd h (NdT.ext hb1 h hn)) (by omega)
  rwa [hsz] at h1
 have hle:=hr.len;have hkl:ks.length≤126:=by have:=z0u hok;unfold brSz at hbr;omega
 obtain⟨vk,vp,nb,⟨a0,c,rfl,s0,_,hnc,hcm⟩,⟨a1,d,rfl,s1,_,hmd,hdm⟩⟩:=hb;obtain⟨g,o,rfl,hcell⟩:=s0.texts (by omega);obtain⟨g2,o2,rfl,_⟩:=s1.ptrs (by omega);obtain⟨gp,w0,hgp,hw0,hc0,hb0⟩:=z0t w PNT #[pt p];have q2:w.cell? ⟨b,3,none⟩=some (.slice (some ⟨g2,o2,none⟩) ps.length d):=nb.c3;have hs0:ES ptrE w0 (some ⟨gp,0,none⟩) [p]:=ES.lit (E:=ptrE) (l:=[p]) hc0;have Hspl:=zh (z49 (some ⟨g2,o2,none⟩) ps.length d ps 0 1 (some ⟨gp,0,none⟩) 1 1 [p] w0 rfl (s1.below hb0 (zlr _)) hmd hdm (fun h=>by cases h) (by omega) rfl (fun h=>by cases h) hs0 (by omega) (by omega));have HG:=zh (zai hgp hw0);have HB:=zh hb0;have Hlen:=zh (y7d ps p 0 (by omega));have Hn:=zh hn;have Hnb:=zh nb;have Hr:=zh hr;have HS:=zh (zai s0 (zai hnc hcm));have HC:=zh hcell;have Hle:=zh hle;have Hen:=zh (fun w=>z48 ((s':Nat):Int) w);rw[zdf (show¬(126:Int)≤(s':Int) by omega)] at Hen;have hcm':c≤9223372036854775807:=by unfold maxLen at hcm;omega
 obtain⟨n,hkn⟩:∃n,ks.length=n:=⟨_,rfl⟩
 obtain⟨m,hpm⟩:∃m,ps.length=m:=⟨_,rfl⟩
 have HL:=zh (zai hkn hpm);rw[hpm] at q2 Hspl;rw[hkn,hpm] at Hnb hle;rw[hkn] at HS HC hnc hl1 hkl;have hkid:z09 w h (lob lo ks 1) (hib hi ks 1) (na ps 1) (ta ts 1):=hr.kid (m:=1) (by omega);have e0:hib hi ks 0=some (sa ks 0):=by unfold hib;rw[if_pos (by omega)]
 have e1:lob lo ks 1=some (sa ks 0):=rfl;rw[e0] at Hn;rw[e1] at hkid;have HE1:=zh hkid;have Hk0:=zh (hok _ (q0i (show 0<ks.length by omega)));have HQ:=zh (zai (q0j ps p 0 (by omega)) (q42 ps p 0 (by omega)));clear hkid e0 e1;have hmn1:m≤n+1:=by omega
 have hmn2:n+1≤m:=by omega
 clear hsz hle hok hr hn nb s0 s1 hcell hmd hdm hcm hgp hw0 hc0 hb0 hs0 hkn hpm hbr
 go_enter Tryz.func110,Tryz.ntmps110
 go_wp2_with fail;rw[HG.out.1,HG.out.2];refine Hspl.out.mono ?_;rintro e w1 ⟨v,rfl,⟨a3,c3,rfl,s3,z3,hn3,hm3⟩,hb1⟩;replace HB:=zh (HB.out.trans (hb1.mono HB.out.size));rw[Hlen.out,HL.out.2] at hn3⊢
 have HS3:=zh (zai s3 (zai z3 (zai hn3 hm3)));clear Hspl HG q2 s3 z3 hn3 hm3 hb1;go_wp2_with fail;refine(Hsn.out w1 HB.out).mono ?_;rintro e w2 ⟨rfl,hb2⟩;replace HS3:=zh (zai (HS3.out.1.below hb2 (zlr _)) HS3.out.2);replace HB:=zh (HB.out.trans (hb2.mono HB.out.size));clear hb2;go_wp2_with fail;refine(Hen.out w2).mono ?_;rintro e w' ⟨rfl,rfl⟩;clear Hen;obtain⟨g3,o3,rfl,hc3⟩:=HS3.out.1.ptrs (by rw[Hlen.out,HL.out.2];omega);obtain⟨W,hW⟩:∃W,w2.drew=W:=⟨_,rfl⟩
 have hbd:Below w2.heap.size w2 W:=by rw[←hW];exact(zbr _ _).drew
 have f0:=hc3 0 (by rw[Hlen.out,HL.out.2];omega);have f1:=hc3 (0+1) (by rw[Hlen.out,HL.out.2];omega);have f2:=HC.out 0 (by omega);rw[HQ.out.1] at f0;rw[HQ.out.2] at f1;replace HS3:=zh (zai (HS3.out.1.below hbd (zlr _)) HS3.out.2);obtain⟨hq1,hq2⟩:=HE1.out;have l0:=block_lt_of_cell f0;have l1:=block_lt_of_cell f1;have l2:=block_lt_of_cell f2;replace HB:=zh (HB.out.trans (hbd.mono HB.out.size));have q0:∀w',Ext W w'→w'.cell? ⟨g3,o3,none⟩=some (pt p):=fun w' hx=>by
  rw[(hbd.trans (hx.mono hbd.size)).cell (p:=⟨g3,o3,none⟩) l0];exact f0
 have q3:∀w',Ext W w'→w'.cell? ⟨g3,o3+1,none⟩=some (pt (na ps (0+1))):=fun w' hx=>by
  rw[(hbd.trans (hx.mono hbd.size)).cell (p:=⟨g3,o3+1,none⟩) l1];exact f1
 have q4:∀w',Ext W w'→w'.cell? ⟨g,o,none⟩=some (.string (sa ks 0)):=fun w' hx=>by
  rw[(HB.out.trans (hx.mono HB.out.size)).cell (p:=⟨g,o,none⟩) l2];exact f2
 have q5:∀w',Ext W w'→w'.cell? ⟨b,2,none⟩=some (.slice (some ⟨g,o,none⟩) n c):=fun w' hx=>((Hnb.out.ext HB.out).ext hx).c2
 have Hj:=zh (z9s W (NdT.ext HB.out h Hn.out) (NdT.ext HB.out h hq1) Hk0.out (by have:=Hsz.out;omega));have HW:=zh hW;have h0m:(0:Int)<(m:Int):=by omega
 have h1m:(1:Int)<(m:Int):=by omega
 have h0n:(0:Int)<(n:Int):=by omega
 have h0m':0<m:=by omega
 have h1m':1<m:=by omega
 have h0n':0<n:=by omega
 have z00:IntKind.i64.wrap 0=0:=by decide
 have z01:IntKind.i64.wrap 1=1:=by decide
 have mx:max (-1:Int) 0=0:=by decide
 generalize na ps (0+1)=pn at*;generalize sa ks 0=kk at*;clear f0 f1 f2 l0 l1 l2 hbd hc3 HQ hW HE1 hq1 HC;go_wp2_with fail;refine z0n [(0,true),(1,true),(2,true),(3,true),(4,true),(5,true),(6,true),(7,true),(8,true),(9,true),(10,true),(11,true),(12,true),(13,true),(14,true),(15,true),(16,false),(17,true)] (by kernel_rfl) (by kernel_rfl) (by kernel_rfl) (by kernel_rfl) (fun _ _ _ _ _ h=>h) ?_;rw[HW.out];iterate 16 (refine grr (v:= ?_) rfl (by rfl) ?_ ?_;rotate_left;(intro w' hw';go_simp;with_reducible rfl);simp only[Act.put,zs0,zs1,zs2])
 clear q0 q3 q4 q5;refine grc rfl (by rfl) (fun K hK=> ?_);go_simp;refine Hj.out.mono ?_;rintro e w3 ⟨bj,tj,rfl,hj1,hj0,hj2,hj3,hj4,hb3⟩;have Hj0:=zh hj0;refine hK _ _ hb3 ?_;clear hK K Hj;have Hk:Hid (NdT w3 h (lob lo ks 0) (hib hi ks 1) bj tj∧126≤tj.sz∧tj.sz≤700):=⟨hj1,by omega,by have:=Hsz.out;omega⟩
 replace HS3:=zh (zai (HS3.out.1.below hb3 (zlr _)) HS3.out.2);replace HB:=zh (HB.out.trans (hb3.mono HB.out.size));clear hj0 hj1 hj2 hj3 hj4 hb3
 (refine grr (v:= ?_) rfl (by rfl) ?_ ?_;rotate_left;(intro w' hw';go_simp;with_reducible rfl);simp only[Act.put,zs0,zs1,zs2])
 refine z07 ?_;have q1:∀w',Below w.heap.size w w'→w'.cell? ⟨b,2,none⟩=some (.slice (some ⟨g,o,none⟩) n c):=fun w' hx=>(Hnb.out.ext hx).c2
 have Hq1:=zh q1;clear q1;go_wp2_with fail;refine(z37 w3 Hk.out.1 Hk.out.2.1 Hk.out.2.2).mono ?_;rintro e w4 ⟨vp,vk,ks',ps',ts',rfl,⟨ap,cp,rfl,sp,zp,_⟩,⟨ak,ck,rfl,sk,zk,_⟩,hr',hfl,hk1,hb4⟩;replace HS3:=zh (zai (HS3.out.1.below hb4 (zlr _)) HS3.out.2);replace HB:=zh (HB.out.trans (hb4.mono HB.out.size));have hle':=hr'.len;have q1:=Hq1.out w4 HB.out;have HsS:=zh (y2o (some ⟨g,o,none⟩) n c ks 0 1 ak ks'.length ck ks' w4 HL.out.1 (HS.out.1.below HB.out (zlr _)) hnc HS.out.2.2 (fun h=>by cases h) (by omega) rfl zk sk (by omega) (by omega));have HsP:=zh (zai sp zp);have Hr':=zh hr';have Hfl:=zh hfl;obtain⟨nk,hnk⟩:∃n,ks'.length=n:=⟨_,rfl⟩
 obtain⟨np,hnp⟩:∃n,ps'.length=n:=⟨_,rfl⟩
 have HLn:=zh (zai hnk hnp);rw[hnk] at HsS hk1⊢
 rw[hnp] at⊢
 have hnp2:np≤2:=by omega
 clear hb4 hle' sp zp sk zk hr' hfl hnk hnp Hk Hn;go_wp2_with fail;refine HsS.out.mono ?_;rintro e w5 ⟨vS,rfl,⟨aS,cS,rfl,eS,rS⟩,hb5⟩;replace HS3:=zh (zai (HS3.out.1.below hb5 (zlr _)) HS3.out.2);replace HsP:=zh (zai (HsP.out.1.below hb5 (zlr _)) HsP.out.2);replace HB:=zh (HB.out.trans (hb5.mono HB.out.size));replace Hr':Hid (KRow (z09 w5 h) ks' (lob lo ks 0) (hib hi ks 1) ps' ts'):=Hr'.out.mono (fun _ _ _ _ hg=>z09.ext hb5 hg);have HeS:=zh (zai eS rS);have HPp:=zh (z49 (some ⟨g3,o3,none⟩) m c3 (ps.take 0++([p]++ps.drop (0+1))) 0 2 ap np cp ps' w5 (by rw[Hlen.out,HL.out.2]) HS3.out.1 HS3.out.2.2.1 HS3.out.2.2.2 HS3.out.2.1 (by omega) HLn.out.2 HsP.out.2 HsP.out.1 (by omega) (by omega));obtain⟨NS,hNS⟩:∃N,(ks.take 0++(ks'++ks.drop (0+1))).length=N:=⟨_,rfl⟩
 have HNS:=zh hNS;rw[hNS];clear hb5 eS rS HsS hNS q1;go_wp2_with fail;refine HPp.out.mono ?_;rintro e w6 ⟨vP,rfl,⟨aP,cP,rfl,eP,rP⟩,hb6⟩;replace HeS:=zh (zai (HeS.out.1.below hb6 (zlr _)) HeS.out.2);replace HB:=zh (HB.out.trans (hb6.mono HB.out.size));replace Hr':Hid (KRow (z09 w6 h) ks' (lob lo ks 0) (hib hi ks 1) ps' ts'):=Hr'.out.mono (fun _ _ _ _ hg=>z09.ext hb6 hg);have HeP:=zh (zai eP rP);obtain⟨NP,hNP⟩:∃N,((ps.take 0++([p]++ps.drop (0+1))).take 0++(ps'++(ps.take 0++([p]++ps.drop (0+1))).drop (0+2))).length=N:=⟨_,rfl⟩
 have HNP:=zh hNP;rw[hNP];clear hb6 eP rP HPp hNP HsP HS3;obtain⟨gN,wN,hgN,hwN,hnbN,hbN⟩:=z0r w6 nilS (.slice aS NS cS) (.slice aP NP cP);have HGN:=zh (zai hgN hwN);have HbN:=zh hbN;have HnbN:=zh hnbN;replace HB:=zh (HB.out.trans (hbN.mono HB.out.size));clear hgN hwN hnbN hbN;go_wp2;rw[HGN.out.1,HGN.out.2];go_ret;have hfin:=y2q Hr.out HB.out (i:=0) (j:=1) (by omega) (by have:=HL.out.1;omega) (by omega) (Hr'.out.mono (fun _ _ _ _ hg=>z09.ext HbN.out hg)) (by rw[HLn.out.1];exact hk1);have hbran:z5g wN gN 0 (ks.take 0++(ks'++ks.drop 1)) (ps.take 0++(ps'++ps.drop (1+1))):=by
  rw[Nat.zero_add] at HNS HeS;refine⟨_,_,HnbN.out,⟨aS,cS,by rw[HNS.out],HeS.out.1.below HbN.out (zlr _),by rw[HNS.out];rw[HNS.out] at HeS;exact HeS.out.2⟩,?_⟩;have e3:=HeP.out;have hN2:=HNP.out;rw[y2r ps p 0 0 (by have:=HL.out.2;have:=Hle.out;omega) (by omega),y2s ps p _ 0 (by have:=HL.out.2;have:=Hle.out;omega) (by omega)] at e3 hN2;rw[show 0+2=1+1 from rfl] at e3 hN2;exact⟨aP,cP,by rw[hN2],e3.1.below HbN.out (zlr _),e3.2⟩
 refine⟨gN,_,_,_,rfl,hbran,hfin.1,⟨?_,fun h0=> ?_⟩,hfin.2.1,hfin.2.2,HB.out⟩
 ·rw[z2x,z2x,Hfl.out.1,Hj0.out.1,y2t (ts:=ts) (i:=0+1) (by have:=Hle.out;have:=HL.out.1;omega)];simp only[esL,List.append_assoc,Nat.zero_add]
 ·rw[y2t (ts:=ts) (i:=0+1) (by have:=Hle.out;have:=HL.out.1;omega)];have f:=(x48 Hj0.out.2.1 Hj0.out.2.2 (.inl h0)).trans (Hfl.out.2.fr Hj0.out.2.1);exact((Fr.refl (ts.take 0)).app (f.app (Fr.refl (ts.drop 2)))).mono (by omega)
set_option maxHeartbeats 4000000 in
set_option maxRecDepth 100000 in
theorem y7e {h:Nat}{lo hi:SB}(b:Nat)(ks:List ByteArray)(ps:List Nat)(ts:List Tr)(A J:Nat)(p:Nat)(t':Tr)(s':Nat)(w:World)(hb:Bran w b ks ps)(hr:KRow (z09 w h) ks lo hi ps ts)(hl1:1≤ks.length)(hbr:brSz ks≤504)(hAJ:A=J+1)(hA:A≤ks.length)(hn:NdT w h (lob lo ks A) (hib hi ks A) p t')(hsz:t'.sz=s')(h126:s'<126):
  Calls Tryz.prog 110 #[pt b,.int .i64 A,pt p] w fun e w'=>z8o w h lo hi ks ts A t' e w':=by
 have hok:=hr.factsT.2.2.2;have Hsz:=zh hsz;have Hsn:Hid (∀w1,Below w.heap.size w w1→Calls Tryz.prog 144 #[pt p] w1 fun e w'=>e=.returned (.int .i64 (s':Nat))∧Below w1.heap.size w1 w'):=fun w1 hb1=>by
  have h1:=z3x w1 (NdT.nd h (NdT.ext hb1 h hn)) (by omega)
  rwa [hsz] at h1
 have hle:=hr.len;have hkl:ks.length≤126:=by have:=z0u hok;unfold brSz at hbr;omega
 obtain⟨vk,vp,nb,⟨a0,c,rfl,s0,_,hnc,hcm⟩,⟨a1,d,rfl,s1,_,hmd,hdm⟩⟩:=hb;obtain⟨g,o,rfl,hcell⟩:=s0.texts (by omega);obtain⟨g2,o2,rfl,_⟩:=s1.ptrs (by omega);obtain⟨gp,w0,hgp,hw0,hc0,hb0⟩:=z0t w PNT #[pt p];have q2:w.cell? ⟨b,3,none⟩=some (.slice (some ⟨g2,o2,none⟩) ps.length d):=nb.c3;have hs0:ES ptrE w0 (some ⟨gp,0,none⟩) [p]:=ES.lit (E:=ptrE) (l:=[p]) hc0;have Hspl:=zh (z49 (some ⟨g2,o2,none⟩) ps.length d ps A 1 (some ⟨gp,0,none⟩) 1 1 [p] w0 rfl (s1.below hb0 (zlr _)) hmd hdm (fun h=>by cases h) (by omega) rfl (fun h=>by cases h) hs0 (by omega) (by omega));have HG:=zh (zai hgp hw0);have HB:=zh hb0;have Hlen:=zh (y7d ps p A (by omega));have Hn:=zh hn;have Hnb:=zh nb;have Hr:=zh hr;have HS:=zh (zai s0 (zai hnc hcm));have HC:=zh hcell;have Hle:=zh hle;have Hen:=zh (fun w=>z48 ((s':Nat):Int) w);rw[zdf (show¬(126:Int)≤(s':Int) by omega)] at Hen;have hcm':c≤9223372036854775807:=by unfold maxLen at hcm;omega
 obtain⟨n,hkn⟩:∃n,ks.length=n:=⟨_,rfl⟩
 obtain⟨m,hpm⟩:∃m,ps.length=m:=⟨_,rfl⟩
 have HL:=zh (zai hkn hpm);rw[hpm] at q2 Hspl;rw[hkn,hpm] at Hnb hle;rw[hkn] at HS HC hnc hl1 hkl;have hkid:z09 w h (lob lo ks J) (hib hi ks J) (na ps J) (ta ts J):=hr.kid (m:=J) (by omega);have e0:hib hi ks J=some (sa ks J):=by unfold hib;rw[if_pos (by omega)]
 have e1:lob lo ks A=some (sa ks J):=by rw[hAJ];rfl
 rw[e1] at Hn;rw[e0] at hkid;have HE1:=zh hkid;have Hk0:=zh (hok _ (q0i (show J<ks.length by omega)));have HQ:=zh (zai (q41 ps p A J (by omega) (by omega)) (q0j ps p A (by omega)));rw[hkn] at hA;have hJn:J<n:=by omega
 have zJ:IntKind.i64.wrap ((A:Int)-1)=(J:Int):=by rw[IntKind.wrap_i64];omega
 have zA:IntKind.i64.wrap ((J:Int)+1)=(A:Int):=by rw[IntKind.wrap_i64];omega
 have mJ:max (J:Int) 0=(J:Int):=by omega
 have HAJ:=zh hAJ;have hJA:J<A:=by omega
 clear hkid e0 e1 hAJ;have hmn1:m≤n+1:=by omega
 have hmn2:n+1≤m:=by omega
 clear hsz hle hok hr hn nb s0 s1 hcell hmd hdm hcm hgp hw0 hc0 hb0 hs0 hkn hpm hbr
 go_enter Tryz.func110,Tryz.ntmps110
 go_wp2_with fail;rw[HG.out.1,HG.out.2];refine Hspl.out.mono ?_;rintro e w1 ⟨v,rfl,⟨a3,c3,rfl,s3,z3,hn3,hm3⟩,hb1⟩;replace HB:=zh (HB.out.trans (hb1.mono HB.out.size));rw[Hlen.out,HL.out.2] at hn3⊢
 have HS3:=zh (zai s3 (zai z3 (zai hn3 hm3)));clear Hspl HG q2 s3 z3 hn3 hm3 hb1;go_wp2_with fail;refine(Hsn.out w1 HB.out).mono ?_;rintro e w2 ⟨rfl,hb2⟩;replace HS3:=zh (zai (HS3.out.1.below hb2 (zlr _)) HS3.out.2);replace HB:=zh (HB.out.trans (hb2.mono HB.out.size));clear hb2;go_wp2_with fail;refine(Hen.out w2).mono ?_;rintro e w' ⟨rfl,rfl⟩;clear Hen;obtain⟨g3,o3,rfl,hc3⟩:=HS3.out.1.ptrs (by rw[Hlen.out,HL.out.2];omega);obtain⟨W,hW⟩:∃W,w2.drew=W:=⟨_,rfl⟩
 have hbd:Below w2.heap.size w2 W:=by rw[←hW];exact(zbr _ _).drew
 have f0:=hc3 J (by rw[Hlen.out,HL.out.2];omega);have f1:=hc3 A (by rw[Hlen.out,HL.out.2];omega);have f2:=HC.out J (by omega);rw[HQ.out.1] at f0;rw[HQ.out.2] at f1;replace HS3:=zh (zai (HS3.out.1.below hbd (zlr _)) HS3.out.2);obtain⟨hq1,hq2⟩:=HE1.out;have l0:=block_lt_of_cell f0;have l1:=block_lt_of_cell f1;have l2:=block_lt_of_cell f2;replace HB:=zh (HB.out.trans (hbd.mono HB.out.size));have q0:∀w',Ext W w'→w'.cell? ⟨g3,o3+J,none⟩=some (pt (na ps J)):=fun w' hx=>by
  rw[(hbd.trans (hx.mono hbd.size)).cell (p:=⟨g3,o3+J,none⟩) l0];exact f0
 have q3:∀w',Ext W w'→w'.cell? ⟨g3,o3+A,none⟩=some (pt p):=fun w' hx=>by
  rw[(hbd.trans (hx.mono hbd.size)).cell (p:=⟨g3,o3+A,none⟩) l1];exact f1
 have q4:∀w',Ext W w'→w'.cell? ⟨g,o+J,none⟩=some (.string (sa ks J)):=fun w' hx=>by
  rw[(HB.out.trans (hx.mono HB.out.size)).cell (p:=⟨g,o+J,none⟩) l2];exact f2
 have q5:∀w',Ext W w'→w'.cell? ⟨b,2,none⟩=some (.slice (some ⟨g,o,none⟩) n c):=fun w' hx=>((Hnb.out.ext HB.out).ext hx).c2
 have Hj:=zh (z9s W (NdT.ext HB.out h hq1) (NdT.ext HB.out h Hn.out) Hk0.out (by have:=Hsz.out;omega));have HW:=zh hW;have h0m:(J:Int)<(m:Int):=by omega
 have h1m:(A:Int)<(m:Int):=by omega
 have h0n:(J:Int)<(n:Int):=by omega
 have h0m':J<m:=by omega
 have h1m':A<m:=by omega
 have h00:(0:Int)≤(J:Int):=by omega
 have h01:(0:Int)≤(A:Int):=by omega
 have z00:IntKind.i64.wrap (J:Int)=(J:Int):=by rw[IntKind.wrap_i64];omega
 have z01:IntKind.i64.wrap (A:Int)=(A:Int):=by rw[IntKind.wrap_i64];omega
 generalize na ps J=pn at*;generalize sa ks J=kk at*;clear f0 f1 f2 l0 l1 l2 hbd hc3 HQ hW HE1 hq1 HC;go_wp2_with fail;refine z0n [(0,true),(1,true),(2,true),(3,true),(4,true),(5,true),(6,true),(7,true),(8,true),(9,true),(10,true),(11,true),(12,true),(13,true),(14,true),(15,true),(16,false),(17,true)] (by kernel_rfl) (by kernel_rfl) (by kernel_rfl) (by kernel_rfl) (fun _ _ _ _ _ h=>h) ?_;rw[HW.out];iterate 16 (refine grr (v:= ?_) rfl (by rfl) ?_ ?_;rotate_left;(intro w' hw';go_simp;with_reducible rfl);simp only[Act.put,zs0,zs1,zs2])
 clear q0 q3 q4 q5;refine grc rfl (by rfl) (fun K hK=> ?_);go_simp;refine Hj.out.mono ?_;rintro e w3 ⟨bj,tj,rfl,hj1,hj0,hj2,hj3,hj4,hb3⟩;have Hj0:=zh hj0;refine hK _ _ hb3 ?_;clear hK K Hj;have Hk:Hid (NdT w3 h (lob lo ks J) (hib hi ks A) bj tj∧126≤tj.sz∧tj.sz≤700):=⟨hj1,by omega,by have:=Hsz.out;omega⟩
 replace HS3:=zh (zai (HS3.out.1.below hb3 (zlr _)) HS3.out.2);replace HB:=zh (HB.out.trans (hb3.mono HB.out.size));clear hj0 hj1 hj2 hj3 hj4 hb3
 (refine grr (v:= ?_) rfl (by rfl) ?_ ?_;rotate_left;(intro w' hw';go_simp;with_reducible rfl);simp only[Act.put,zs0,zs1,zs2])
 refine z07 ?_;have q1:∀w',Below w.heap.size w w'→w'.cell? ⟨b,2,none⟩=some (.slice (some ⟨g,o,none⟩) n c):=fun w' hx=>(Hnb.out.ext hx).c2
 have Hq1:=zh q1;clear q1;go_wp2_with fail;refine(z37 w3 Hk.out.1 Hk.out.2.1 Hk.out.2.2).mono ?_;rintro e w4 ⟨vp,vk,ks',ps',ts',rfl,⟨ap,cp,rfl,sp,zp,_⟩,⟨ak,ck,rfl,sk,zk,_⟩,hr',hfl,hk1,hb4⟩;replace HS3:=zh (zai (HS3.out.1.below hb4 (zlr _)) HS3.out.2);replace HB:=zh (HB.out.trans (hb4.mono HB.out.size));have hle':=hr'.len;have q1:=Hq1.out w4 HB.out;have HsS:=zh (y2o (some ⟨g,o,none⟩) n c ks J 1 ak ks'.length ck ks' w4 HL.out.1 (HS.out.1.below HB.out (zlr _)) hnc HS.out.2.2 (fun h=>by cases h) (by omega) rfl zk sk (by omega) (by omega));have HsP:=zh (zai sp zp);have Hr':=zh hr';have Hfl:=zh hfl;obtain⟨nk,hnk⟩:∃n,ks'.length=n:=⟨_,rfl⟩
 obtain⟨np,hnp⟩:∃n,ps'.length=n:=⟨_,rfl⟩
 have HLn:=zh (zai hnk hnp);rw[hnk] at HsS hk1⊢
 rw[hnp] at⊢
 have hnp2:np≤2:=by omega
 clear hb4 hle' sp zp sk zk hr' hfl hnk hnp Hk Hn;go_wp2_with fail;refine HsS.out.mono ?_;rintro e w5 ⟨vS,rfl,⟨aS,cS,rfl,eS,rS⟩,hb5⟩;replace HS3:=zh (zai (HS3.out.1.below hb5 (zlr _)) HS3.out.2);replace HsP:=zh (zai (HsP.out.1.below hb5 (zlr _)) HsP.out.2);replace HB:=zh (HB.out.trans (hb5.mono HB.out.size));replace Hr':Hid (KRow (z09 w5 h) ks' (lob lo ks J) (hib hi ks A) ps' ts'):=Hr'.out.mono (fun _ _ _ _ hg=>z09.ext hb5 hg);have HeS:=zh (zai eS rS);have HPp:=zh (z49 (some ⟨g3,o3,none⟩) m c3 (ps.take A++([p]++ps.drop (A+1))) J 2 ap np cp ps' w5 (by rw[Hlen.out,HL.out.2]) HS3.out.1 HS3.out.2.2.1 HS3.out.2.2.2 HS3.out.2.1 (by omega) HLn.out.2 HsP.out.2 HsP.out.1 (by omega) (by omega));obtain⟨NS,hNS⟩:∃N,(ks.take J++(ks'++ks.drop (J+1))).length=N:=⟨_,rfl⟩
 have HNS:=zh hNS;rw[hNS];clear hb5 eS rS HsS hNS q1;go_wp2_with fail;refine HPp.out.mono ?_;rintro e w6 ⟨vP,rfl,⟨aP,cP,rfl,eP,rP⟩,hb6⟩;replace HeS:=zh (zai (HeS.out.1.below hb6 (zlr _)) HeS.out.2);replace HB:=zh (HB.out.trans (hb6.mono HB.out.size));replace Hr':Hid (KRow (z09 w6 h) ks' (lob lo ks J) (hib hi ks A) ps' ts'):=Hr'.out.mono (fun _ _ _ _ hg=>z09.ext hb6 hg);have HeP:=zh (zai eP rP);obtain⟨NP,hNP⟩:∃N,((ps.take A++([p]++ps.drop (A+1))).take J++(ps'++(ps.take A++([p]++ps.drop (A+1))).drop (J+2))).length=N:=⟨_,rfl⟩
 have HNP:=zh hNP;rw[hNP];clear hb6 eP rP HPp hNP HsP HS3;obtain⟨gN,wN,hgN,hwN,hnbN,hbN⟩:=z0r w6 nilS (.slice aS NS cS) (.slice aP NP cP);have HGN:=zh (zai hgN hwN);have HbN:=zh hbN;have HnbN:=zh hnbN;replace HB:=zh (HB.out.trans (hbN.mono HB.out.size));clear hgN hwN hnbN hbN;go_wp2;rw[HGN.out.1,HGN.out.2];go_ret;have hfin:=y2q Hr.out HB.out (i:=J) (j:=A) (by omega) (by have:=HL.out.1;omega) (by have:=HAJ.out;omega) (Hr'.out.mono (fun _ _ _ _ hg=>z09.ext HbN.out hg)) (by rw[HLn.out.1];exact hk1);have hbran:z5g wN gN 0 (ks.take J++(ks'++ks.drop A)) (ps.take J++(ps'++ps.drop (A+1))):=by
  rw[←HAJ.out] at HNS HeS;refine⟨_,_,HnbN.out,⟨aS,cS,by rw[HNS.out],HeS.out.1.below HbN.out (zlr _),by rw[HNS.out];rw[HNS.out] at HeS;exact HeS.out.2⟩,?_⟩;have e3:=HeP.out;have hN2:=HNP.out;rw[y2r ps p J A (by have:=HL.out.2;have:=Hle.out;omega) (by omega),y2s ps p _ A (by have:=HL.out.2;have:=Hle.out;omega) (by have:=HAJ.out;omega)] at e3 hN2;rw[show J+2=A+1 by have:=HAJ.out;omega] at e3 hN2;exact⟨aP,cP,by rw[hN2],e3.1.below HbN.out (zlr _),e3.2⟩
 refine⟨gN,_,_,_,rfl,hbran,hfin.1,⟨?_,fun h0=> ?_⟩,hfin.2.1,hfin.2.2,HB.out⟩
 ·rw[z2x,z2x,Hfl.out.1,Hj0.out.1,HAJ.out,x49 (ts:=ts) (i:=J) (by have:=Hle.out;have:=HL.out.1;omega),z2x,z1s];simp only[List.append_assoc]
 ·rw[HAJ.out,x49 (ts:=ts) (i:=J) (by have:=Hle.out;have:=HL.out.1;omega),←HAJ.out];have f:=(x48 Hj0.out.2.1 Hj0.out.2.2 (.inr h0)).trans (Hfl.out.2.fr Hj0.out.2.1);have f2:=((Fr.refl (ts.take J)).app (f.app (Fr.refl (ts.drop (A+1))))).mono (m:=1) (by omega);rw[List.append_assoc];exact f2
theorem x04 {h:Nat}{lo hi:SB}(b:Nat)(ks:List ByteArray)(ps:List Nat)(ts:List Tr)(A p:Nat)(t':Tr)(s':Nat)(w:World)(hb:Bran w b ks ps)(hr:KRow (z09 w h) ks lo hi ps ts)(hl1:1≤ks.length)(hbr:brSz ks≤504)(hA:A≤ks.length)(hn:NdT w h (lob lo ks A) (hib hi ks A) p t')(hsz:t'.sz=s')(hs:s'≤660):
  Calls Tryz.prog 110 #[pt b,.int .i64 A,pt p] w fun e w'=>z8o w h lo hi ks ts A t' e w':=by
 rcases zng s' 126 with h1|h1
 ·rcases Nat.eq_zero_or_pos A with h0|h0
  ·subst h0;exact y5b b ks ps ts p t' s' w hb hr hl1 hbr hn hsz h1
  ·exact y7e b ks ps ts A (A-1) p t' s' w hb hr hl1 hbr (by omega) hA hn hsz h1
 ·exact y2u b ks ps ts A p t' s' w hb hr hl1 hbr hA hn hsz h1 hs
def TOk:Nat→SB→SB→Tr→Prop
 | 0,lo,hi,t=>∃pg es,t=.leaf pg es∧ltO lo hi∧srt es∧∀x∈es,okE x∧ins lo hi x.k
 | h+1,lo,hi,t=>∃pg ks ps ts,t=.bran pg ks ts∧KRow (fun lo hi _ t=>TOk h lo hi t∧126≤t.sz∧t.sz≤504) ks lo hi ps ts
theorem q50 {w:World}:∀(h:Nat) {lo hi:SB} {b:Nat} {t:Tr},NdT w h lo hi b t→TOk h lo hi t
 | 0,_,_,_,_,⟨pg,es,h0,_,h1⟩=>⟨pg,es,h0,h1⟩
 | h+1,_,_,_,_,⟨pg,ks,ps,ts,h0,_,h1⟩=>⟨pg,ks,ps,ts,h0,h1.mono (fun _ _ _ _ ⟨h2,h3⟩=>⟨q50 h h2,h3⟩)⟩
def TGd (h:Nat)(lo hi:SB)(_:Nat)(t:Tr):Prop:=TOk h lo hi t∧126≤t.sz∧t.sz≤504
theorem TOk.facts:∀(h:Nat) {lo hi:SB} {t:Tr},TOk h lo hi t→ltO lo hi∧srt t.es∧∀x∈t.es,okE x∧ins lo hi x.k
 | 0,_,_,_,⟨pg,es,h0,h1,h2,h3⟩=>by
  subst h0;rw[Tr.es];exact⟨h1,h2,h3⟩
 | h+1,lo,hi,_,⟨pg,ks,ps,ts,h0,h1⟩=>by
  subst h0;rw[Tr.es];have h2:KRow (fun lo hi _ e=>ltO lo hi∧srt e∧∀x∈e,okE x∧ins lo hi x.k) ks lo hi ps (ts.map Tr.es):=h1.map Tr.es (fun _ _ _ t ⟨h3,_⟩=>TOk.facts h h3);have h3:=h2.facts (fun _ _ _ _ h=>h);rw[z2i];exact⟨h3.1,h3.2.1,h3.2.2.1⟩
theorem TGd.row {h:Nat}{ks:List ByteArray}{lo hi:SB}{ps:List Nat}{ts:List Tr}(hr:KRow (TGd h) ks lo hi ps ts):KRow (fun lo hi _ e=>ltO lo hi∧srt e∧∀x∈e,okE x∧ins lo hi x.k) ks lo hi ps (ts.map Tr.es):=hr.map Tr.es (fun _ _ _ _ hg=>hg.1.facts h)
def SpB (s:Sp)(lo hi:SB):Prop:=(match lo with|none=>s.lo=ByteArray.empty|some a=>s.lo=a)∧(match hi with|none=>s.op=true|some b=>s.op=false∧s.hi=b)
theorem y5c (k:ByteArray):blt k ByteArray.empty=false:=by
 rw[z5m];exact List.not_lt_nil _
theorem SpB.has {s:Sp}{lo hi:SB}(h:SpB s lo hi){k:ByteArray}(hk:ins lo hi k):hasS s k=true:=by
 obtain⟨h1,h2⟩:=h;unfold hasS;have a1:blt k s.lo=false:=by
  cases lo with
  | none=>rw[show s.lo=ByteArray.empty from h1];exact y5c k
  | some a=>rw[show s.lo=a from h1];exact hk.1
 have a2:(s.op||blt k s.hi)=true:=by
  cases hi with
  | none=>rw[show s.op=true from h2];rfl
  | some b=>rw[h2.2,show blt k b=true from hk.2];simp
 rw[a1,a2];rfl
theorem SpB.part {s:Sp}{lo hi:SB}(h:SpB s lo hi)(ks:List ByteArray)(i:Nat):SpB (z7e s ks i) (lob lo ks i) (hib hi ks i):=by
 unfold SpB z7e lob hib;refine⟨?_,?_⟩
 ·by_cases h0:i=0
  ·subst h0;simp only[if_pos];rw[if_neg (by omega)];exact h.1
  ·rw[if_neg h0];simp only;rw[if_pos (by omega)]
 ·by_cases h0:i<ks.length
  ·rw[if_pos h0];simp only;rw[if_pos h0,if_pos h0];exact⟨rfl,rfl⟩
  ·rw[if_neg h0];simp only;rw[if_neg h0,if_neg h0];exact h.2
theorem y88 {P:Nat→List Nat}{e:En}(h:okE e)(hl:CeL P e)(hr:∀p∈e.ch,2≤p∧p<1024):mayB (cE e)=true:=by
 unfold cE mayB
 rcases hl with ⟨h1,_⟩|⟨h1,h2,_⟩
 ·rw[if_neg (by omega)];simp only;rw[h.1,zdt (show(e.v.size:Int)≤2048 by omega)];unfold plB;rw[if_pos (show((e.v.size:Int))≤64 by omega)];simp
 ·rw[if_pos h1];simp only;have h3:=h.2;rw[h.1,zdt (show(e.v.size:Int)≤2048 by omega)];unfold plB;rw[if_neg (show¬((e.v.size:Int))≤64 by omega)];have h4:0<e.ch.length:=by rw[h2];exact y6o.2 (by omega)
  have h5:=hr _ (z4f h4);have h6:(ByteArray.empty).size=0:=rfl;simp only[Bool.true_and];exact zdt ⟨h6,by omega,by omega⟩
theorem cE_k (e:En):(cE e).k=e.k:=by unfold cE;split<;>rfl
theorem cE_n (e:En):(cE e).n=(e.v.size:Int):=by unfold cE;split<;>rfl
theorem y89 (es:List En)(i:Nat)(h:i<es.length):ca (es.map cE) i=cE (ea es i):=by
 unfold ca ea;simp[List.getD,h]
theorem z77 {P:Nat→List Nat}:∀(es:List En),(∀e∈es,okE e∧CeL P e∧∀p∈e.ch,2≤p∧p<1024)→(body (es.map cE)).length=szs es
 | [],_=>rfl
 | e::r,h=>by
  have h1:=h e (by simp);rw[List.map_cons,body,zla,y1v (y88 h1.1 h1.2.1 h1.2.2),z77 r (fun x hx=>h x (by simp[hx])),y19,cE_k,cE_n]
  rfl
theorem y5d {P:Nat→List Nat}(es:List En)(h:∀e∈es,okE e∧CeL P e∧∀p∈e.ch,2≤p∧p<1024):(z10 (es.map cE)).length=z0s es:=by
 rw[z6d,z77 es h,List.length_map];rfl
theorem x8u {P:Nat→List Nat}{es:List En}(h:∀e∈es,okE e∧CeL P e∧∀p∈e.ch,2≤p∧p<1024):z2k (es.map cE):=fun i hi=>by
 rw[List.length_map] at hi;rw[y89 es i hi];have h1:=h _ (z4e hi);exact y88 h1.1 h1.2.1 h1.2.2
theorem y9a {es:List En}(hs:srt es):asc (es.map cE):=fun i h0 hi=>by
 rw[List.length_map] at hi;rw[y89 es i hi,y89 es (i-1) (by omega),cE_k,cE_k];exact x3f hs (by omega) hi
theorem y5e (ks:List ByteArray):z1c ks ks.length=brSz ks:=by
 have:∀k,k≤ks.length→z1c ks k=2+kss (ks.take k):=by
  intro k
  induction k with
  | zero=>intro _;rfl
  | succ k ih=>
   intro h;rw[z1c,ih (by omega),y6d ks k (by omega),z5r];have:kss [sa ks k]=3+(sa ks k).size:=by unfold kss;simp
   rw[this];omega
 rw[this _ (zlr _),List.take_length];rfl
theorem y7f (ts:List Tr)(i:Nat)(h:i<ts.length):ia (ts.map pgI) i=(((ts.getD i (.leaf 0 [])).pg:Nat):Int):=by
 unfold ia;simp[List.getD,h,pgI]
theorem y9b:∀(ts:List Tr) (i:Nat),i<ts.length→(ts.getD i (.leaf 0 [])).pg≠0→1≤(pgsL ts).count (ts.getD i (.leaf 0 [])).pg
 | [],i,h,_=>by simp at h
 | t::r,0,_,h0=>by
  have e:(t::r).getD 0 (.leaf 0 [])=t:=rfl;rw[e] at h0⊢
  have e2:([t.pg]:List Nat).count t.pg=1:=List.count_singleton_self;rw[pgsL,t.pgs_eq,if_neg h0,List.count_append,List.count_append,e2];omega
 | t::r,i+1,h,h0=>by
  have e:(t::r).getD (i+1) (.leaf 0 [])=r.getD i (.leaf 0 []):=rfl;rw[e] at h0⊢
  have:=y9b r i (by simpa using h) h0;rw[pgsL,List.count_append];omega
theorem x5a:∀(ts:List Tr) (i j:Nat),i<j→j<ts.length→(ts.getD i (.leaf 0 [])).pg=(ts.getD j (.leaf 0 [])).pg→(ts.getD j (.leaf 0 [])).pg≠0→2≤(pgsL ts).count (ts.getD j (.leaf 0 [])).pg
 | [],i,j,_,h,_,_=>by simp at h
 | t::r,0,j+1,_,h,he,h0=>by
  have e:(t::r).getD (j+1) (.leaf 0 [])=r.getD j (.leaf 0 []):=rfl;have e0:(t::r).getD 0 (.leaf 0 [])=t:=rfl;rw[e,e0] at he;rw[e] at h0⊢
  have:=y9b r j (by simpa using h) h0;have h1:t.pg≠0:=by rw[he];exact h0
  have e2:([(r.getD j (.leaf 0 [])).pg]:List Nat).count (r.getD j (.leaf 0 [])).pg=1:=List.count_singleton_self;rw[pgsL,t.pgs_eq,if_neg h1,List.count_append,List.count_append,he,e2];omega
 | t::r,i+1,j+1,hij,h,he,h0=>by
  have e:(t::r).getD (j+1) (.leaf 0 [])=r.getD j (.leaf 0 []):=rfl;have e0:(t::r).getD (i+1) (.leaf 0 [])=r.getD i (.leaf 0 []):=rfl;rw[e,e0] at he;rw[e] at h0⊢
  have:=x5a r i j (by omega) (by simpa using h) he h0;rw[pgsL,List.count_append];omega
section
variable (P:Nat→List Nat) (PL:List (List Nat))
theorem z9t {o:RO}{p k:Nat}{l:List Nat}(hP:PL.getD p []=z1l k l)(hk1:1≤k)(hk5:k≤5)(hl:l.length≤504)(h2:2≤p)(hp:p<PL.length)(hu:o.u p=false):
  z3k PL o ((p:Nat):Int)=some (⟨o.l,uput o.u p,o.d⟩,k,l):=by
 unfold z3k;have e:((p:Nat):Int).toNat=p:=rfl;rw[e,if_neg (by rw[hu];intro h;rcases h with h|h|h<;>first|omega|cases h),hP,x64 hk1 hk5 hl]
 rfl
def uL (ts:List Tr):List Nat:=pgsL ts++chL (esL ts)
def uT (t:Tr):List Nat:=t.pgs++chL t.es
theorem q43 (p:Nat)(t:Tr):(uT t).count p=cU p t:=by unfold uT cU;rw[List.count_append]
theorem y5f (p:Nat)(ts:List Tr):(uL ts).count p=cUL p ts:=by unfold uL cUL;rw[List.count_append]
theorem z23 (p:Nat)(ts:List Tr):p∈uL ts↔0<cUL p ts:=by rw[←y5f];exact List.count_pos_iff.symm
theorem q0k (p:Nat)(t:Tr):p∈uT t↔0<cU p t:=by rw[←q43];exact List.count_pos_iff.symm
theorem z5y (p:Nat)(t:Tr)(r:List Tr):p∈uL (t::r)↔p∈uT t∨p∈uL r:=by
 rw[z23,z23,q0k,z2r];omega
theorem q44 (t:Tr)(h:t.pg≠0):t.pg∈uT t:=by
 unfold uT;rw[t.pgs_eq,if_neg h];simp
end
end Go.Proofs.YtdnfhjfbanhhcaaGreatDoor
namespace Go.Proofs.YtdnfhjfbanhhcaaGreatDoor
open Go.RowKit
section
variable (P:List (List Nat))
def ldV:Nat→RO→ByteArray→List Nat→Int→Int→Option (RO×ByteArray×List Nat)
 | 0,o,s,ps,page,long=>if (s.size:Int)<long then none else if page=0 then some (o,s,ps) else none
 | f+1,o,s,ps,page,long=>if (s.size:Int)<long then
   match z3k P o page with
   | none=>none
   | some (o1,k,b)=>if k=3∧dcE b=0∧((dcV b).size:Int)=min 502 (long-s.size) then ldV f o1 (s++dcV b) (ps++[page.toNat]) (dcN b) long else none
  else if page=0 then some (o,s,ps) else none
def ldE (f:Nat)(c:Ce)(o:RO):Option (RO×ByteArray×List Nat):=if 64<c.n then ldV P f o ByteArray.empty [] c.p c.n else some (o,c.v,[])
def ldC (f:Nat)(s:Sp):List Ce→RO→Option (RO×List En)
 | [],o=>some (o,[])
 | c::r,o=>if hasS s c.k=true then
   match ldE P f c o with
   | none=>none
   | some (o1,v,ps)=>match ldC f s r ⟨o1.l++[⟨c.k,v,[]⟩],o1.u,o1.d⟩ with
    | none=>none
    | some (o2,es)=>some (o2,⟨c.k,v,ps⟩::es)
  else none
def lowS (s:Sp)(ks:List ByteArray)(i:Nat):Sp:=⟨if 0<i then sa ks (i-1) else s.lo,s.hi,s.op⟩
def ldK (rec:RO→Int→Sp→Int→Option (RO×Tr))(ks:List ByteArray)(ps:List Int)(s:Sp)(deep:Int):Nat→RO→Option (RO×List Tr)
 | 0,o=>some (o,[])
 | t+1,o=>if ps.length-(t+1)<ks.length∧hasS (lowS s ks (ps.length-(t+1))) (sa ks (ps.length-(t+1)))=false then none else
  match rec o (ia ps (ps.length-(t+1))) (z7e s ks (ps.length-(t+1))) (deep+1) with
  | none=>none
  | some (o1,tr)=>if tr.sz<126 then none else
   match ldK rec ks ps s deep t o1 with
   | none=>none
   | some (o2,ts)=>some (o2,tr::ts)
def z4g (d deep:Int):Int:=if d=0 then deep else d
noncomputable def ldN:Nat→RO→Int→Sp→Int→Option (RO×Tr)
 | 0,_,_,_,_=>none
 | f+1,o,page,s,deep=>match z3k P o page with
  | none=>none
  | some (o1,k,b)=>
   if k=1 then (if z4g o1.d deep≠deep then none else match decS b with
    | none=>none
    | some cs=>if cs=[] then none else match ldC P f s cs ⟨o1.l,o1.u,deep⟩ with
     | none=>none
     | some (o2,es)=>some (o2,.leaf page.toNat es))
   else if k=2 then (match z22 b with
    | none=>none
    | some (ks,ps)=>match ldK (ldN f) ks ps s deep ps.length o1 with
     | none=>none
     | some (o2,ts)=>some (o2,.bran page.toNat ks ts))
   else none
end
end Go.Proofs.YtdnfhjfbanhhcaaGreatDoor
