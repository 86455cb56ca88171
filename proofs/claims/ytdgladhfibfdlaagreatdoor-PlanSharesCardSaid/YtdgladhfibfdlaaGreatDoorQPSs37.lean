/-
  Steps.
-/
import Derived.Test.YtdgladhfibfdlaaGreatDoorQPSs36
namespace Go.Proofs.YtdgladhfibfdlaaGreatDoor
open Go Go.RowKit Go.Proofs.Tryz
set_option maxRecDepth 100000
theorem y6h:x0q RSP (spc ⟨ByteArray.empty,ByteArray.empty,false⟩):=fun w=>by kernel_rfl
theorem x0d (s:Sp):(spc s).all (·.oneCell')=true:=by simp[spc,Value.oneCell']
theorem z5u (s:ByteArray):Dw STY (.string s):=fun w g k u hc hf=>by go_simp
theorem x2l {B gu g:Nat}{w:World}{t:TypeId}{cs:Array Value}(h:Blk w g t cs)(ht:t≠RET)(hu:g≠gu):¬QFT B gu w g:=fun hF=>by
 rcases hF with e|⟨_,ds,fz,hc⟩
 ·exact hu e
 ·have h1:w.heap[g]? =some (.cells cs t (0,0)):=h;rw[h1] at hc
  cases hc
  exact ht rfl
theorem y2p {B gu g o m c C T sz n:Nat}{w:World}{xs:List Value}(h:w.ownsRow C T sz (.slice (some ⟨g,o,none⟩) m c) n xs)(ht:T≠RET)(hu:g≠gu):¬QFT B gu w g:=fun hF=>by
 rcases h.2 with ⟨h1,_⟩|⟨g2,cap,cur,e,_,hg,_⟩
 ·cases h1
 ·cases e
  rcases hF with e|⟨_,ds,fz,hc⟩
  ·exact hu e
  ·rw[hg] at hc
   cases hc
   exact ht rfl
theorem ZO {w:World}{C gk ok nk ck:Nat}{ks:List ByteArray}(h:w.ownsRow C STY 1 (.slice (some ⟨gk,ok,none⟩) nk ck) ks.length (sv ks))(i:Nat)(hi:i<ks.length):w.cell? ⟨gk,ok+i,none⟩=some (.string (sa ks i)):=by
 obtain⟨a,c,e,hs,_⟩:=H9 h;obtain⟨g,o,rfl,hc⟩:=hs (by omega)
 cases e
 exact hc i hi
theorem y6i {w:World}{C gk ok nk ck:Nat}{ps:List Int}(h:w.ownsRow C ITY 1 (.slice (some ⟨gk,ok,none⟩) nk ck) ps.length (iv ps))(i:Nat)(hi:i<ps.length):w.cell? ⟨gk,ok+i,none⟩=some (.int .i64 (ia ps i)):=by
 obtain⟨a,c,e,hs,_⟩:=Q5 h;obtain⟨g,o,rfl,hc⟩:=hs (by omega)
 cases e
 exact hc i hi
set_option maxHeartbeats 8000000 in
theorem y6j (P:List (List Nat))(a:Option Addr)(c:Nat)(o:RO)(L:Value)(B gu:Nat)(page:Int)(s:Sp)(deep:Int)(f:Nat)(w0 w:World)(hI:NIn P a w0 w B gu o L)(o1:RO)(b:List Nat)(ks:List ByteArray)(ps:List Int)(ho:T9 P o page=some (o1,2,b))(hth:¬(1<deep∧b.length<126))(hc:S9 b=some (ks,ps))(hfr:Vj o.u P.length≤f+1)(hd0:0≤deep)(hd1:deep+f≤1999999)(HN:∀(o:RO) (L:Value) (page:Int) (s:Sp) (deep:Int) (w:World),NIn P a w0 w B gu o L→Vj o.u P.length≤f→0≤deep→deep+f≤2000000→Calls prog 55 #[.agg (ov L (uv gu P.length) o.d false),.slice a P.length c,.int .i64 page,.agg (spc s),.int .i64 deep] w fun e w'=>L0 P B gu w (Xy P f o page s deep) e w'):
  Calls prog 55 #[.agg (ov L (uv gu P.length) o.d false),.slice a P.length c,.int .i64 page,.agg (spc s),.int .i64 deep] w fun e w'=>L0 P B gu w (Xy P (f+1) o page s deep) e w':=by
 obtain⟨R,hR⟩:∃R,Xy P (f+1) o page s deep=R:=⟨_,rfl⟩
 obtain⟨hf1,hl1,hdd⟩:=Sz P ho;have hR1:Ij (Xy P f) ks ps s deep ps.length o1=R:=by rw[←hR,y6g ho hth hc]
 have HR1:=zh hR1;have hbl:b.length≤504:=by obtain⟨_,_,_,_,_,_,rfl⟩:=Rk P ho;exact XE _
 have Hbl:=zh hbl;have HIH:=zh HN;have hmay:=z94 hc;obtain⟨eK,eI,eE⟩:=z4r hc;have Hkeys:=zh hmay.1;have Hk1:=zh hmay.2.2.1;have Hpk:=zh hmay.2.2.2;have Hdp:=zh hdd;have Hl1:=zh hl1;have Hf1:Hid (Vj o1.u P.length≤f):=by show _≤_;omega
 have Hfew0:Hid (o1.l.length+504*Vj o1.u P.length≤900000):=by have:=hI.few;rw[hl1];show _≤_;omega
 have HPg:=zh hI.pg;have Hgu0:=zh hI.gu0;rw[hR];have HO:=zh ho;clear ho hR hbl hR1 hf1 hl1 hdd hc hfr HN hmay;unfold L0;obtain⟨n,hn⟩:∃n,P.length=n:=⟨_,rfl⟩
 have HI:=zh hI;have Hn:=zh hn;have oT:=fun(M:Value) (hM:IsS M) (d:Int) b=>Jj hM gu n d b
 have HLs:Hid (IsS L):=Xk hI.own;have C0:=zh (fun(wx:World) (h1:zB w0 wx) (h2:Blk wx gu BLT (yl P.length o.u)) h3=>Ov P a c o L (Xk hI.own) gu page w0 wx h1 hI.pg h2 hI.gu0 h3);have C1:=zh (fun(wx:World) (h1:zB w0 wx) (h2:Blk wx gu BLT (yl P.length o.u)) o1 k b h3=>Qx P a c o L (Xk hI.own) gu page w0 wx h1 hI.pg h2 hI.gu0 o1 k b h3);have HU0:=zh hI.use;rw[hn] at C0 C1 HU0⊢
 obtain⟨U,hUv⟩:∃U,uv gu n=U:=⟨_,rfl⟩
 rw[hUv] at oT C0 C1⊢
 have HUv:=zh hUv;have HUs:Hid (IsS U):=by show IsS U;rw[←hUv];exact⟨_,_,_,rfl⟩
 obtain⟨D,hD⟩:∃D,o.d=D:=⟨_,rfl⟩
 rw[hD] at C0 C1⊢
 have HD:=zh hD;clear hI hn hUv hD;rw[Hn.out] at Hf1 Hfew0;have CN:Hid (∀(y:RO) (M:Value) (q:Int) (s1:Sp) (dp d1:Int) (wx:World),y.d=d1→NIn P a w0 wx B gu y M→Vj y.u n≤f→0≤dp→dp+f≤2000000→Calls prog 55 #[.agg (ov M U d1 false),.slice a n c,.int .i64 q,.agg (spc s1),.int .i64 dp] wx fun e w'=>
   (
    (Xy P f y q s1 dp=none∧∃(L1:Value) (d2:Int),IsS L1∧e=.returned (.agg (ov L1 U d2 true)))∨
    (∃(o1:RO) (L1:Value),Xy P f y q s1 dp=some o1∧e=.returned (.agg (ov L1 U o1.d false))∧w'.ownsRow B RET 2 L1 o1.l.length (Y9.row o1.l)∧Blk w' gu BLT (yl n o1.u)))∧KT B gu wx w'):=fun y M q s1 dp d1 wx hyd hN hu h0 h1=>by
  have h:=HIH.out y M q s1 dp wx hN (by rw[Hn.out];exact hu) h0 h1;unfold L0 at h;rw[Hn.out,HUv.out,hyd] at h;exact h
 clear HIH
 go_enter func55,ntmps55
 go_wp2_with (first
  | (refine Zw rfl ROT (.tmp 0) rfl (ov L U D false) (by rfl) ?_;intro g5 w1 hg5 hk5 hb5)
  | (refine Zw rfl RSP (.tmp 3) rfl (spc s) (by rfl) ?_;intro g8 w2 hg8 hk8 hb8)
  | (show wpList _ _ _ (⟨some 10,_,_,_,_,_⟩::_) _ _;refine Zv rfl ROT rfl Vx ?_;intro g10 w3 hg10 hk10 hb10;have bx:Ext w w3:=hb5.trans ((hb8.mono hb5.size).trans (hb10.mono (znt hb5.size hb8.size)));have K5:=zh ((hk5.ext hb8).ext hb10);have K8:=zh (hk8.ext hb10);have K10:=zh hk10;have KU:=zh (HU0.out.ext bx);have KL:=zh (X3 HI.out.own bx);have KW:Hid (KT B gu w w3):=x3y bx;have B3:Hid (zB w0 w3):=HI.out.hb0.trans (Below.mono bx HI.out.hb0.size);have N58:Hid (g8≠g5):=(by show _≠_;have:=hk5.lt;omega);have N510:Hid (g10≠g5):=(by show _≠_;have h1:=hk5.lt;have h2:=hb8.size;omega);have Z5:Hid (w.heap.size≤g5):=hg5;have Z10:Hid (w.heap.size≤g10):=(by show _≤_;have h1:=hb5.size;have h2:=hb8.size;omega);clear hg5 hk5 hb5 hg8 hk8 hb8 hg10 hk10 hb10 bx)
  | (show wpList _ _ _ (⟨some 24,_,_,_,_,_⟩::_) _ _;refine Zj rfl ROT (.tmp 5) rfl g5 0 (ov L U D false) (by rfl) Zk K5.out.at (Zq _ _ _ _) ?_))
 refine(C1.out w3 B3.out KU.out _ _ _ HO.out).mono ?_;rintro e w4 ⟨vl,rfl,hsv,hb8',hku,ht⟩;have M5:=zh (K5.out.turn ht (K5.out.ne KU.out (by decide)));have M8:=zh (K8.out.turn ht (K8.out.ne KU.out (by decide)));have M10:=zh (K10.out.turn ht (K10.out.ne KU.out (by decide)));have ML:=zh (Yw KL.out ht KU.out (by decide));have MU:=zh hku;have MS:=zh hsv;have HB8:=zh hb8';have MT:=zh (KW.out.gu ht);clear ht hku hsv hb8' C0 C1 K5 K8 K10 KU KL KW B3
 go_upto_region 2 with (first
  | (refine Zz rfl ROT (.tmp 5) (.tmp 28) rfl g5 (ov L U D false) _ ROT (by rfl) (by rfl) Zk M5.out (Zq _ _ _ _) (Zq _ _ _ _) (oT L HLs.out _ _) ?_;intro w5 hk ht5 hs5;have P5:=zh hk;have P8:=zh (M8.out.turn ht5 N58.out);have P10:=zh (M10.out.turn ht5 N510.out);have PU:=zh (MU.out.turn ht5 (fun e=>(M5.out.ne MU.out (by decide)) e.symm));have PL:=zh (Yw ML.out ht5 M5.out (by decide));have PT:=zh (MT.out.mine ht5 Z5.out);have PS:=zh (MS.out.turn ht5 (Qq M5.out HLs.out HUs.out));have q3:=hk.o3;have q2:=hk.o2;clear hk ht5 hs5 M5 M8 M10 MU ML MT MS))
 obtain⟨av,cv,rfl,hsl⟩:∃av cv,vl=.slice av b.length cv∧True:=by obtain⟨x,y,hx,_⟩:=PS.out.arg;exact⟨x,y,hx,trivial⟩
 obtain⟨m,hm⟩:∃m,b.length=m:=⟨_,rfl⟩
 rw[hm] at hth;have Hm:=zh hm;have Pv:=PS;rw[hm] at Pv⊢
 clear hsl hm
 go_cut [41] (fun s41 wx=>s41=.bool false∧w5=wx)
 case first=>
  by_cases hd1:1<deep
  ·have d1:decide ((1:Int)<deep)=true:=zdt hd1;have d2:decide ((m:Int)<126)=false:=zdf (by omega);have d3:decide (m<126)=false:=zdf (by omega);clear hth hd1;go_wp2;go_meet;exact⟨rfl,by first|trivial|rfl⟩
  ·have d1:decide ((1:Int)<deep)=false:=zdf hd1;clear hth hd1;go_wp2;go_meet;exact⟨rfl,by first|trivial|rfl⟩
 case rest=>
  obtain⟨rfl,rfl⟩:=hcut;clear hth;have CL:=JQ _ b w5 Pv.out HB8.out Hbl.out;rw[eK,eI,eE] at CL;go_wp2_with fail;refine CL.mono ?_;rintro e w6 ⟨u,v,rfl,hou,hoi,hb⟩;replace P5:=zh (P5.out.ext hb);replace P8:=zh (P8.out.ext hb);replace P10:=zh (P10.out.ext hb);replace PU:=zh (PU.out.ext hb);replace PL:=zh (X3 PL.out hb);replace PT:=zh (PT.out.ext hb);obtain⟨nk,hnk⟩:∃nk,ks.length=nk:=⟨_,rfl⟩
  obtain⟨np,hnp⟩:∃np,ps.length=np:=⟨_,rfl⟩
  obtain⟨ak,ck,rfl,hsk,_,_,hbk⟩:=H9 hou;obtain⟨gk,ok,rfl,_⟩:=hsk (by have:=Hk1.out;omega);obtain⟨ap,cp,rfl,hsp,_,_,hbp⟩:=Q5 hoi;obtain⟨gp,op,rfl,_⟩:=hsp (by have:=Hk1.out;have:=Hpk.out;omega);have hpb:np≤maxLen:=by omega
  have Hpk2:Hid (np=nk+1):=by have:=Hpk.out;show _=_;omega
  have hk1:1≤nk:=by have:=Hk1.out;omega
  rw[hnk,hnp];have Hnk:=zh hnk;have Hnp:=zh hnp;rw[hnk] at hou;rw[hnp] at hoi;obtain⟨C,hC⟩:∃C,w5.heap.size=C:=⟨_,rfl⟩
  rw[hC] at hou hoi;have OU:Hid (w6.ownsRow C STY 1 (.slice (some ⟨gk,ok,none⟩) nk ck) ks.length (sv ks)):=by rw[hnk];exact hou
  have OI:Hid (w6.ownsRow C ITY 1 (.slice (some ⟨gp,op,none⟩) np cp) ps.length (iv ps)):=by rw[hnp];exact hoi
  unfold maxLen at hpb;have hkb:nk≤9223372036854775806:=by have:=Hpk2.out;omega
  clear hb hou hoi q2 q3 PS Pv CL eK eI eE hsk hsp hbk hbp hnk hnp hC
  go_upto_region 27 with (first
   | (show wpList _ _ _ (⟨some 19,_,_,_,_,_⟩::_) _ _;refine Zv rfl RFK rfl z5t ?_;intro g19 w7 hg19 hk19 hb19;have Z19:Hid (w.heap.size≤g19):=znt PT.out.size hg19;have K19:=zh hk19;replace P5:=zh (P5.out.ext hb19);replace P8:=zh (P8.out.ext hb19);replace P10:=zh (P10.out.ext hb19);replace PU:=zh (PU.out.ext hb19);replace PL:=zh (X3 PL.out hb19);replace PT:=zh (PT.out.ext hb19);replace OU:=zh (X3 OU.out hb19);replace OI:=zh (X3 OI.out hb19);clear hg19 hk19 hb19)
   | (refine Zz rfl RFK (.tmp 19) (.tmp 145) rfl g19 #[.slice (some ⟨gk,ok,none⟩) nk ck,.slice (some ⟨gp,op,none⟩) np cp] _ RFK (by rfl) (by rfl) y2o K19.out (by rfl) (by rfl) (y7q _ _ _ _ _ _) ?_;intro w8 hk8 ht8 hs8;replace P5:=zh (P5.out.turn ht8 (P5.out.ne K19.out (by decide)));replace P8:=zh (P8.out.turn ht8 (P8.out.ne K19.out (by decide)));replace P10:=zh (P10.out.turn ht8 (P10.out.ne K19.out (by decide)));replace PU:=zh (PU.out.turn ht8 (fun e=>(K19.out.ne PU.out (by decide)) e.symm));replace PL:=zh (Yw PL.out ht8 K19.out (by decide));replace PT:=zh (PT.out.mine ht8 Z19.out);replace OU:=zh (Xw OU.out ht8 K19.out (by decide));replace OI:=zh (Xw OI.out ht8 K19.out (by decide));replace K19:=zh hk8;clear hk8 ht8 hs8))
  go_wp2_with fail;have HI0:Hid (BrI B gu n w w8 g5 g8 g10 g19 C s U L D o1 false ks ps (.slice (some ⟨gk,ok,none⟩) nk ck) (.slice (some ⟨gp,op,none⟩) np cp)):=⟨P5.out,P8.out,P10.out,K19.out,OU.out,OI.out,PT.out,HLs.out,fun _=>PU.out,(fun _=>by rw[Hl1.out];exact PL.out),fun _=>(Hdp.out.trans HD.out)⟩
  have HR0:Hid (BrR P n f ks ps s deep R 0 o1 false):=⟨fun _=>⟨HR1.out,Hf1.out⟩,(fun h=>by cases h),fun _=>Hfew0.out⟩
  clear P5 P8 P10 PU PL PT OU OI K19
  go_loopw [21,22] (fun i _ wr=>∃(k:Nat) (M:Value) (d:Int) (y:RO) (bd:Bool),i=.int .i64 k∧k≤np∧Hid (BrI B gu n w wr g5 g8 g10 g19 C s U M d y bd ks ps (.slice (some ⟨gk,ok,none⟩) nk ck) (.slice (some ⟨gp,op,none⟩) np cp))∧Hid (BrR P n f ks ps s deep R k y bd)) (fun i _ _=>np-(intOf i).toNat)
  case atStart=>exact⟨0,L,D,o1,false,rfl,by omega,HI0,HR0⟩
  case round=>
   clear HI0 HR0;obtain⟨k,M,d,y,bd,rfl,hk,HLf,HRf⟩:=hrel;have c3:=HLf.out.b5.o3;have c1:wr.cell? ⟨g19,1,none⟩=some (.slice (some ⟨gp,op,none⟩) np cp):=by rw[HLf.out.b19.cell];rfl
   cases bd with
   | true=>
    have HNo:Hid (R=none):=HRf.out.no rfl
    by_cases hlt:k<np
    ·have i1:decide ((k:Int)<(np:Int))=true:=zdt (by omega);have i2:decide (k<np)=true:=zdt (by omega);have K5:=zh HLf.out.b5;have K10:=zh HLf.out.b10;have HMs:=zh HLf.out.is;clear hlt
     go_upto_region 39 with fail
     go_wp2_with (first
      | (show wpList _ _ _ (⟨some 213,_,_,_,_,_⟩::_) _ _;refine Zj rfl ROT (.tmp 5) rfl g5 0 (ov M U d true) (by rfl) Zk K5.out.at (Zq _ _ _ _) ?_)
      | (refine Zz rfl ROT (.tmp 10) (.tmp 213) rfl g10 (ov M U d true) _ ROT (by rfl) (by rfl) Zk K10.out (Zq _ _ _ _) (Zq _ _ _ _) (oT M HMs.out _ _) ?_;intro w9 hk9 ht9 hs9))
     refine bodyPost_ret (v:=.agg (ov M U d true)) ?_ rfl ?_
     ·exact Xj Zk rfl _ _ g10 _ (by rfl) hk9 (Zq _ _ _ _)
     ·exact⟨.inl ⟨HNo.out,M,d,HMs.out,rfl⟩,HLf.out.kt.mine ht9 Z10.out⟩
    ·have i1:decide ((k:Int)<(np:Int))=false:=zdf (by omega);have i2:decide (k<np)=false:=zdf (by omega);have K5:=zh HLf.out.b5;have K10:=zh HLf.out.b10;have HMs:=zh HLf.out.is;clear hlt
     go_upto_region 39 with fail
     go_wp2_with (first
      | (show wpList _ _ _ (⟨some 213,_,_,_,_,_⟩::_) _ _;refine Zj rfl ROT (.tmp 5) rfl g5 0 (ov M U d true) (by rfl) Zk K5.out.at (Zq _ _ _ _) ?_)
      | (refine Zz rfl ROT (.tmp 10) (.tmp 213) rfl g10 (ov M U d true) _ ROT (by rfl) (by rfl) Zk K10.out (Zq _ _ _ _) (Zq _ _ _ _) (oT M HMs.out _ _) ?_;intro w9 hk9 ht9 hs9))
     refine bodyPost_ret (v:=.agg (ov M U d true)) ?_ rfl ?_
     ·exact Xj Zk rfl _ _ g10 _ (by rfl) hk9 (Zq _ _ _ _)
     ·exact⟨.inl ⟨HNo.out,M,d,HMs.out,rfl⟩,HLf.out.kt.mine ht9 Z10.out⟩
   | false=>
    by_cases hlt:k<np
    ·have i1:(k:Int)<(np:Int):=by omega
     have HMs:=zh HLf.out.is
     go_upto_if 165 with (first
      | (show wpList _ _ _ (⟨some 163,_,_,_,_,_⟩::_) _ _;refine Zj rfl RSP (.tmp 8) rfl g8 0 (spc s) (by rfl) I0 HLf.out.b8.at (by rfl) ?_)
      | (show wpList _ _ _ (⟨some 22,_,_,_,_,_⟩::_) _ _;refine Zv rfl RSP rfl y6h ?_;intro g22 w2 hg22 hk22 hb22;have HA:=zh (HLf.out.ext hb22);have K22:=zh hk22;have Z22:Hid (w.heap.size≤g22):=znt HLf.out.kt.size hg22;have N8:Hid (g8≠g22):=(by show _≠_;have:=HLf.out.b8.lt;omega);clear hg22 hk22 hb22)
      | (refine Zz rfl RSP (.tmp 22) (.tmp 163) rfl g22 (spc s) _ RSP (by rfl) (by rfl) I0 K22.out (by rfl) (by rfl) (x0d _) ?_;intro w3 hk3 ht3 hs3;replace HA:=zh (HA.out.span ht3 K22.out Z22.out N8.out);replace K22:=zh hk3;clear hk3 ht3 hs3))
     clear c1 c3
     go_cut [] (fun wx=>∃b1:Bool,Hid (BrI B gu n w wx g5 g8 g10 g19 C s U M d y b1 ks ps (.slice (some ⟨gk,ok,none⟩) nk ck) (.slice (some ⟨gp,op,none⟩) np cp))∧Hid (Blk wx g22 RSP (spc ⟨if 0<k then sa ks (k-1) else s.lo,s.hi,s.op⟩))∧Hid (BrK P n f ks ps s deep R k y b1))
     case first=>
      by_cases hk0:0<k
      ·have e1:decide (0<(k:Int))=true:=zdt (by omega);have e2:decide (0<k)=true:=zdt hk0;have c0:w3.cell? ⟨g19,0,none⟩=some (.slice (some ⟨gk,ok,none⟩) nk ck):=by rw[HA.out.b19.cell];rfl
       obtain⟨j,hj⟩:∃j,k-1=j:=⟨_,rfl⟩
       have hjk:j<nk:=by have:=Hpk2.out;omega
       have e3:(k:Int)-1=(j:Int):=by omega
       have Hj:=zh hj;have Hk0:=zh hk0;have c4:=ZO HA.out.ok j (by rw[Hnk.out];exact hjk);obtain⟨K0,hK0⟩:∃K0,sa ks j=K0:=⟨_,rfl⟩
       have HK0:=zh hK0;have hz0:K0.size≤40:=by rw[←hK0];exact(Xv (Hkeys.out j (by rw[Hnk.out];exact hjk)).1).2
       rw[hK0] at c4;clear hk0 hj hK0
       go_upto_region 33 with (refine Zu rfl STY (.tmp 172) (.tmp 171) rfl g22 0 (.string K0) (spc s) RSP (z5u _) (by rfl) (by rfl) K22.out (by show 0<3;decide) ?_;intro w4 hk4 ht4;replace HA:=zh (HA.out.span ht4 K22.out Z22.out N8.out);replace K22:Hid (Blk w4 g22 RSP (spc ⟨K0,s.hi,s.op⟩)):=hk4;clear hk4 ht4)
       obtain⟨D1,hD1⟩:∃D1,xR s K0=D1:=⟨_,rfl⟩
       have CH:=fun(wx:World)=>z5s s K0 wx (by omega)
       rw[hD1] at CH;have HCH:=zh CH;have HD1:=zh hD1;clear hD1 CH c0 c4 hz0
       cases D1 with
       | true=>
        refine rgt (F:=fun i=>i=g5) [(0,true),(1,false),(2,true),(3,true),(4,true),(5,true),(6,true),(7,true),(8,true),(9,true),(10,false),(11,true),(12,true),(13,true),(14,false)] (h:= ?_);have HLd:=zh (HA.out.ext (Ext.drew w4));have KS22:=zh (K22.out.ext (Ext.drew w4));generalize w4.drew=ud at*;have nK:gk≠g5:=I1 HLd.out.ok HLd.out.b5 (by decide);have q0:∀w',Zx (fun i=>i=g5) ud w'→w'.cell? ⟨g19,0,none⟩=some (.slice (some ⟨gk,ok,none⟩) nk ck):=fun w' ht=>by rw[(HLd.out.b19.turn ht (HLd.out.b19.ne HLd.out.b5 (by decide))).cell];rfl
        have q4:∀w',Zx (fun i=>i=g5) ud w'→w'.cell? ⟨gk,ok+j,none⟩=some (.string K0):=fun w' ht=>by
         have h:=ZO HLd.out.ok j (by rw[Hnk.out];exact hjk);rw[ht.cell (p:=⟨gk,ok+j,none⟩) (block_lt_of_cell h) nK,h,HK0.out]
        have q3:=HLd.out.b5.o3;iterate 1 (refine gtr (v:= ?_) rfl (by rfl) ?_ ?_;rotate_left;(intro w' hw';go_simp;with_reducible rfl);simp only[Act.put,zs0,zs1,zs2])
        refine gtc rfl (by rfl) (fun K hK=> ?_);go_simp;refine hK _ _ (Zx.refl _ _) ?_;clear hK K;try simp only[Act.put,zs0,zs1,zs2]
        clear q3;iterate 1 (refine gtr (v:= ?_) rfl (by rfl) ?_ ?_;rotate_left;(intro w' hw';go_simp;with_reducible rfl);simp only[Act.put,zs0,zs1,zs2])
        refine gtr (v:=.agg (spc s)) rfl (by rfl) (fun w' hw'=>T0 RSP (.tmp 8) rfl g8 0 (spc s) (by rfl) I0 (HLd.out.b8.turn hw' N58.out).at (by rfl)) ?_;simp only[Act.put,zs0,zs1,zs2];iterate 1 (refine gtr (v:= ?_) rfl (by rfl) ?_ ?_;rotate_left;(intro w' hw';go_simp;with_reducible rfl);simp only[Act.put,zs0,zs1,zs2])
        refine gtr (v:=.slice (some ⟨gk,ok,none⟩) nk ck) rfl (by rfl) (fun w' hw'=>by have q:=q0 w' hw';go_simp) ?_;simp only[Act.put,zs0,zs1,zs2];have qw:IntKind.i64.wrap (j:Int)=(j:Int):=by rw[IntKind.wrap_i64];omega
        iterate 3 (refine gtr (v:= ?_) rfl (by rfl) ?_ ?_;rotate_left;(intro w' hw';go_simp;with_reducible rfl);simp only[Act.put,zs0,zs1,zs2])
        refine gtr (v:=.string K0) rfl (by rfl) (fun w' hw'=>by have q:=q4 w' hw';go_simp) ?_;simp only[Act.put,zs0,zs1,zs2];refine gtc rfl (by rfl) (fun K hK=> ?_);try go_simp
        refine(HCH.out ud).mono ?_;rintro e u1 ⟨rfl,hb1⟩;refine hK _ _ (x3x hb1) ?_;clear hK K q0 q4 nK;replace HLd:=zh (HLd.out.ext hb1);replace KS22:=zh (KS22.out.ext hb1);clear hb1;try simp only[Act.put,zs0,zs1,zs2]
        iterate 3 (refine gtr (v:= ?_) rfl (by rfl) ?_ ?_;rotate_left;(intro w' hw';go_simp;with_reducible rfl);simp only[Act.put,zs0,zs1,zs2])
        refine gtc rfl (by rfl) (fun K hK=> ?_);refine Ux BLT (.tmp 186) (.tmp 185) rfl g5 3 (.bool false) (ov M U d false) ROT (Yu _) (by rfl) (by rfl) HLd.out.b5 (by show 3<4;decide) (fun w9 k9 t9=> ?_);refine hK _ _ t9 ?_;clear hK K;refine Yj ?_;go_wp2;go_meet;exact⟨false,HLd.out.flag t9 k9 (by decide) N510.out Z5.out,(by show Blk _ _ _ _;rw[if_pos Hk0.out,Hj.out,HK0.out];exact KS22.out.turn t9 (KS22.out.ne HLd.out.b5 (by decide))),HRf.out.key (by rw[Hnp.out];omega) (fun _=>by rw[Hj.out,HK0.out];exact HD1.out)⟩
       | false=>
        refine rgt (F:=fun i=>i=g5) [(0,true),(1,false),(2,true),(3,true),(4,true),(5,true),(6,true),(7,true),(8,true),(9,true),(10,false),(11,true),(12,true),(13,true),(14,false)] (h:= ?_);have HLd:=zh (HA.out.ext (Ext.drew w4));have KS22:=zh (K22.out.ext (Ext.drew w4));generalize w4.drew=ud at*;have nK:gk≠g5:=I1 HLd.out.ok HLd.out.b5 (by decide);have q0:∀w',Zx (fun i=>i=g5) ud w'→w'.cell? ⟨g19,0,none⟩=some (.slice (some ⟨gk,ok,none⟩) nk ck):=fun w' ht=>by rw[(HLd.out.b19.turn ht (HLd.out.b19.ne HLd.out.b5 (by decide))).cell];rfl
        have q4:∀w',Zx (fun i=>i=g5) ud w'→w'.cell? ⟨gk,ok+j,none⟩=some (.string K0):=fun w' ht=>by
         have h:=ZO HLd.out.ok j (by rw[Hnk.out];exact hjk);rw[ht.cell (p:=⟨gk,ok+j,none⟩) (block_lt_of_cell h) nK,h,HK0.out]
        have q3:=HLd.out.b5.o3;iterate 1 (refine gtr (v:= ?_) rfl (by rfl) ?_ ?_;rotate_left;(intro w' hw';go_simp;with_reducible rfl);simp only[Act.put,zs0,zs1,zs2])
        refine gtc rfl (by rfl) (fun K hK=> ?_);go_simp;refine hK _ _ (Zx.refl _ _) ?_;clear hK K;try simp only[Act.put,zs0,zs1,zs2]
        clear q3;iterate 1 (refine gtr (v:= ?_) rfl (by rfl) ?_ ?_;rotate_left;(intro w' hw';go_simp;with_reducible rfl);simp only[Act.put,zs0,zs1,zs2])
        refine gtr (v:=.agg (spc s)) rfl (by rfl) (fun w' hw'=>T0 RSP (.tmp 8) rfl g8 0 (spc s) (by rfl) I0 (HLd.out.b8.turn hw' N58.out).at (by rfl)) ?_;simp only[Act.put,zs0,zs1,zs2];iterate 1 (refine gtr (v:= ?_) rfl (by rfl) ?_ ?_;rotate_left;(intro w' hw';go_simp;with_reducible rfl);simp only[Act.put,zs0,zs1,zs2])
        refine gtr (v:=.slice (some ⟨gk,ok,none⟩) nk ck) rfl (by rfl) (fun w' hw'=>by have q:=q0 w' hw';go_simp) ?_;simp only[Act.put,zs0,zs1,zs2];have qw:IntKind.i64.wrap (j:Int)=(j:Int):=by rw[IntKind.wrap_i64];omega
        iterate 3 (refine gtr (v:= ?_) rfl (by rfl) ?_ ?_;rotate_left;(intro w' hw';go_simp;with_reducible rfl);simp only[Act.put,zs0,zs1,zs2])
        refine gtr (v:=.string K0) rfl (by rfl) (fun w' hw'=>by have q:=q4 w' hw';go_simp) ?_;simp only[Act.put,zs0,zs1,zs2];refine gtc rfl (by rfl) (fun K hK=> ?_);try go_simp
        refine(HCH.out ud).mono ?_;rintro e u1 ⟨rfl,hb1⟩;refine hK _ _ (x3x hb1) ?_;clear hK K q0 q4 nK;replace HLd:=zh (HLd.out.ext hb1);replace KS22:=zh (KS22.out.ext hb1);clear hb1;try simp only[Act.put,zs0,zs1,zs2]
        iterate 3 (refine gtr (v:= ?_) rfl (by rfl) ?_ ?_;rotate_left;(intro w' hw';go_simp;with_reducible rfl);simp only[Act.put,zs0,zs1,zs2])
        refine gtc rfl (by rfl) (fun K hK=> ?_);refine Ux BLT (.tmp 186) (.tmp 185) rfl g5 3 (.bool true) (ov M U d false) ROT (Yu _) (by rfl) (by rfl) HLd.out.b5 (by show 3<4;decide) (fun w9 k9 t9=> ?_);refine hK _ _ t9 ?_;clear hK K;refine Yj ?_;go_wp2;go_meet;exact⟨true,HLd.out.flag t9 k9 (by decide) N510.out Z5.out,(by show Blk _ _ _ _;rw[if_pos Hk0.out,Hj.out,HK0.out];exact KS22.out.turn t9 (KS22.out.ne HLd.out.b5 (by decide))),HRf.out.keyNo (by rw[Hnp.out];omega) Hk0.out (by rw[Hj.out,HK0.out];exact HD1.out)⟩
      ·have e1:decide (0<(k:Int))=false:=zdf (by omega);have e2:decide (0<k)=false:=zdf hk0;have HB1:Hid (BrK P n f ks ps s deep R k y false):=HRf.out.key (by rw[Hnp.out];omega) (fun h=>absurd h hk0);have Hk0:=zh hk0;clear hk0;go_wp2;go_meet;exact⟨false,HA.out,(by show Blk _ _ _ _;rw[if_neg Hk0.out];exact K22.out),HB1⟩
     case rest=>
      clear HA K22 HRf HLf;obtain⟨b1,HB,K22,HK⟩:=hcut;have c0:wc.cell? ⟨g19,0,none⟩=some (.slice (some ⟨gk,ok,none⟩) nk ck):=by rw[HB.out.b19.cell];rfl
      go_upto_if 191 with fail
      go_cut [] (fun wx=>Hid (BrI B gu n w wx g5 g8 g10 g19 C s U M d y b1 ks ps (.slice (some ⟨gk,ok,none⟩) nk ck) (.slice (some ⟨gp,op,none⟩) np cp))∧Hid (Blk wx g22 RSP (spc (Iz s ks k))))
      case first=>
       obtain⟨lo,hlo⟩:∃lo,(if 0<k then sa ks (k-1) else s.lo)=lo:=⟨_,rfl⟩
       rw[hlo] at K22;have Hlo:=zh hlo;clear hlo
       by_cases hkn:k<nk
       ·have e1:decide ((k:Int)<(nk:Int))=true:=zdt (by omega);have e2:decide (k<nk)=true:=zdt hkn;have c4:=ZO HB.out.ok k (by rw[Hnk.out];exact hkn);obtain⟨K1,hK1⟩:∃K1,sa ks k=K1:=⟨_,rfl⟩
        rw[hK1] at c4;have HK1:=zh hK1;have Hkn:=zh hkn;clear hkn hK1
        go_wp2_with (first
         | (refine Zu rfl STY (.tmp 197) (.tmp 196) rfl g22 1 (.string K1) (spc ⟨lo,s.hi,s.op⟩) RSP (z5u _) (by rfl) (by rfl) K22.out (by show 1<3;decide) ?_;intro w4 hk4 ht4;replace HB:=zh (HB.out.span ht4 K22.out Z22.out N8.out);replace K22:Hid (Blk w4 g22 RSP (spc ⟨lo,K1,s.op⟩)):=hk4;clear hk4 ht4)
         | (refine Zu rfl BLT (.tmp 198) (.const (.bool false)) rfl g22 2 (.bool false) (spc ⟨lo,K1,s.op⟩) RSP (Yu _) (by rfl) (by rfl) K22.out (by show 2<3;decide) ?_;intro w5 hk5 ht5;replace HB:=zh (HB.out.span ht5 K22.out Z22.out N8.out);replace K22:Hid (Blk w5 g22 RSP (spc ⟨lo,K1,false⟩)):=hk5;clear hk5 ht5))
        go_meet;refine⟨HB.out,?_⟩;show Blk _ _ _ _;unfold Iz;rw[Hlo.out,Hnk.out,if_pos Hkn.out,if_pos Hkn.out,HK1.out];exact K22.out
       ·have e1:decide ((k:Int)<(nk:Int))=false:=zdf (by omega);have e2:decide (k<nk)=false:=zdf hkn;have Hkn:=zh hkn;clear hkn;go_wp2;go_meet;refine⟨HB.out,?_⟩;show Blk _ _ _ _;unfold Iz;rw[Hlo.out,Hnk.out,if_neg Hkn.out,if_neg Hkn.out];exact K22.out
      case rest=>
       clear HB K22 c0;obtain⟨HB,K22⟩:=hcut;have c3:=HB.out.b5.o3
       cases b1 with
       | true=>
        go_wp2
        go_roundw
        case rel=>exact⟨k+1,M,d,y,true,by go_num,by omega,HB,HK.out.none⟩
        case measure=>simp[intOf];omega
       | false=>
        go_wp2_with fail;refine rgt (F:=fun z=>z=g5∨QFT B gu wc.drew z) [(1,true),(2,true),(3,true),(4,true),(5,true),(6,true),(7,true),(8,true),(9,true),(0,false),(10,false),(11,false)] (h:= ?_);have HLd:=zh (HB.out.ext (Ext.drew wc));have KS22:=zh (K22.out.ext (Ext.drew wc));generalize wc.drew=ud at*;clear c3;have q1:∀w',Zx (fun z=>z=g5∨QFT B gu ud z) ud w'→w'.cell? ⟨g19,1,none⟩=some (.slice (some ⟨gp,op,none⟩) np cp):=fun w' ht=>by
         rw[(HLd.out.b19.turn ht (fun h=>h.elim (HLd.out.b19.ne HLd.out.b5 (by decide)) (x2l HLd.out.b19 (by decide) (HLd.out.b19.ne (HLd.out.bu rfl) (by decide))))).cell];rfl
        have q4:∀w',Zx (fun z=>z=g5∨QFT B gu ud z) ud w'→w'.cell? ⟨gp,op+k,none⟩=some (.int .i64 (ia ps k)):=fun w' ht=>by
         have h:=y6i HLd.out.oi k (by rw[Hnp.out];exact hlt);rw[ht.cell (p:=⟨gp,op+k,none⟩) (block_lt_of_cell h) (fun hh=>hh.elim (I1 HLd.out.oi HLd.out.b5 (by decide)) (y2p HLd.out.oi (by decide) (I1 HLd.out.oi (HLd.out.bu rfl) (by decide)))),h]
        have q7:∀w',Zx (fun z=>z=g5∨QFT B gu ud z) ud w'→Blk w' g22 RSP (spc (Iz s ks k)):=fun w' ht=>KS22.out.turn ht (fun h=>h.elim (KS22.out.ne HLd.out.b5 (by decide)) (x2l KS22.out (by decide) (KS22.out.ne (HLd.out.bu rfl) (by decide))))
        obtain⟨PG,hPG⟩:∃PG,ia ps k=PG:=⟨_,rfl⟩
        rw[hPG] at q4;have HPG:=zh hPG;clear hPG;have qw:IntKind.i64.wrap (k:Int)=(k:Int):=by rw[IntKind.wrap_i64];omega
        have qd:IntKind.i64.wrap (deep+1)=deep+1:=by rw[IntKind.wrap_i64];omega
        iterate 2 (refine gtr (v:= ?_) rfl (by rfl) ?_ ?_;rotate_left;(intro w' hw';go_simp;with_reducible rfl);simp only[Act.put,zs0,zs1,zs2])
        refine gtr (v:=.slice (some ⟨gp,op,none⟩) np cp) rfl (by rfl) (fun w' hw'=>by have q:=q1 w' hw';go_simp) ?_;simp only[Act.put,zs0,zs1,zs2];iterate 2 (refine gtr (v:= ?_) rfl (by rfl) ?_ ?_;rotate_left;(intro w' hw';go_simp;with_reducible rfl);simp only[Act.put,zs0,zs1,zs2])
        refine gtr (v:=.int .i64 PG) rfl (by rfl) (fun w' hw'=>by have q:=q4 w' hw';go_simp) ?_;simp only[Act.put,zs0,zs1,zs2];refine gtr (v:=.agg (spc (Iz s ks k))) rfl (by rfl) (fun w' hw'=>T0 RSP (.tmp 22) rfl g22 0 (spc (Iz s ks k)) (by rfl) I0 (q7 w' hw').at (by rfl)) ?_;simp only[Act.put,zs0,zs1,zs2];iterate 2 (refine gtr (v:= ?_) rfl (by rfl) ?_ ?_;rotate_left;(intro w' hw';go_simp;with_reducible rfl);simp only[Act.put,zs0,zs1,zs2])
        clear q1 q4 q7;refine gtc rfl (by rfl) (fun K hK=> ?_);refine YB ROT (.tmp 5) rfl g5 0 (ov M U d false) (by rfl) Zk HLd.out.b5.at (Zq _ _ _ _) (hK _ _ (Zx.refl _ _) ?_);clear hK K;simp only[Act.put,zs0,zs1,zs2];have HNI:Hid (NIn P a w0 ud B gu y M):=⟨HI.out.hb0.trans (HLd.out.kt.below (C:=w0.heap.size) HI.out.hb0.size HI.out.B0 HI.out.gu0),HPg.out,by rw[Hn.out];exact HLd.out.bu rfl,HLd.out.ow rfl,HI.out.gu0,HI.out.B0,znt HI.out.Bw HLd.out.kt.size,by rw[Hn.out];exact HK.out.few rfl⟩
        refine gtc rfl (by rfl) (fun K hK=> ?_);try go_simp
        refine(CN.out y M PG (Iz s ks k) (deep+1) d ud (HLd.out.dp rfl) HNI.out (HK.out.go rfl).2 (by omega) (by omega)).mono ?_;rintro e u1 ⟨hres,hkt⟩
        rcases hres with ⟨hno,L1,d1,hL1,rfl⟩|⟨y1,L1,hyes,rfl,hown,hbu⟩
        ·skip
         refine hK _ _ (Zx.mono hkt (fun i hi _=> .inr hi)) ?_;clear hK K;try simp only[Act.put,zs0,zs1,zs2]
         have h5:=(HLd.out.kid hkt).1;refine gtc rfl (by rfl) (fun K hK=> ?_);refine U0 ROT (.tmp 5) (.tmp 212) rfl g5 (ov L1 U d1 true) _ ROT (by rfl) (by rfl) Zk h5 (Zq _ _ _ _) (Zq _ _ _ _) (oT L1 hL1 _ _) (fun w9 k9 t9 _=> ?_);refine hK _ _ (t9.mono (fun i hi _=> .inl hi)) ?_;clear hK K;have HB9:=zh (HLd.out.take (x1:=y) hkt t9 k9 hL1 (fun e=>by cases e) (fun e=>by cases e) (fun e=>by cases e) N510.out Z5.out);have HR9:Hid (BrR P n f ks ps s deep R (k+1) y true):=HK.out.not (by rw[HPG.out];exact hno);clear hno hkt k9 t9 h5 hL1;refine Yj ?_;go_wp2
         go_roundw
         case rel=>exact⟨k+1,L1,d1,y,true,by go_num,by omega,HB9,HR9⟩
         case measure=>simp[intOf];omega
        ·skip
         have hL1:=Xk hown;refine hK _ _ (Zx.mono hkt (fun i hi _=> .inr hi)) ?_;clear hK K;try simp only[Act.put,zs0,zs1,zs2]
         have h5:=(HLd.out.kid hkt).1;refine gtc rfl (by rfl) (fun K hK=> ?_);refine U0 ROT (.tmp 5) (.tmp 212) rfl g5 (ov L1 U y1.d false) _ ROT (by rfl) (by rfl) Zk h5 (Zq _ _ _ _) (Zq _ _ _ _) (oT L1 hL1 _ _) (fun w9 k9 t9 _=> ?_);refine hK _ _ (t9.mono (fun i hi _=> .inl hi)) ?_;clear hK K;have HB9:=zh (HLd.out.take (x1:=y1) hkt t9 k9 hL1 (fun _=>hbu) (fun _=>hown) (fun _=>rfl) N510.out Z5.out);have HR9:Hid (BrR P n f ks ps s deep R (k+1) y1 false):=HK.out.yes Hn.out (by rw[HPG.out];exact hyes);clear hyes hown hbu hkt k9 t9 h5 hL1;refine Yj ?_;go_wp2
         go_roundw
         case rel=>exact⟨k+1,L1,y1.d,y1,false,by go_num,by omega,HB9,HR9⟩
         case measure=>simp[intOf];omega
    ·have i1:decide ((k:Int)<(np:Int))=false:=zdf (by omega);have i2:decide (k<np)=false:=zdf (by omega);have K5:=zh HLf.out.b5;have K10:=zh HLf.out.b10;have HMs:=zh HLf.out.is;have HRs:Hid (R=some y):=by
      have h:=(HRf.out.go rfl).1;rw[show ps.length-k=0 from by rw[Hnp.out];omega] at h;exact h.symm
     clear hlt
     go_upto_region 39 with fail
     go_wp2_with (first
      | (show wpList _ _ _ (⟨some 213,_,_,_,_,_⟩::_) _ _;refine Zj rfl ROT (.tmp 5) rfl g5 0 (ov M U d false) (by rfl) Zk K5.out.at (Zq _ _ _ _) ?_)
      | (refine Zz rfl ROT (.tmp 10) (.tmp 213) rfl g10 (ov M U d false) _ ROT (by rfl) (by rfl) Zk K10.out (Zq _ _ _ _) (Zq _ _ _ _) (oT M HMs.out _ _) ?_;intro w9 hk9 ht9 hs9))
     refine bodyPost_ret (v:=.agg (ov M U d false)) ?_ rfl ?_
     ·exact Xj Zk rfl _ _ g10 _ (by rfl) hk9 (Zq _ _ _ _)
     ·exact⟨.inr ⟨y,M,HRs.out,by rw[HLf.out.dp rfl],Yw (HLf.out.ow rfl) ht9 HLf.out.b10 (by decide),(HLf.out.bu rfl).turn ht9 (fun e=>(HLf.out.b10.ne (HLf.out.bu rfl) (by decide)) e.symm)⟩,HLf.out.kt.mine ht9 Z10.out⟩
theorem y2q (P:List (List Nat))(a:Option Addr)(c:Nat)(B gu:Nat)(w0:World):∀(f:Nat) (o:RO) (L:Value) (page:Int) (s:Sp) (deep:Int) (w:World),NIn P a w0 w B gu o L→Vj o.u P.length≤f→0≤deep→deep+f≤2000000→
  Calls prog 55 #[.agg (ov L (uv gu P.length) o.d false),.slice a P.length c,.int .i64 page,.agg (spc s),.int .i64 deep] w fun e w'=>L0 P B gu w (Xy P f o page s deep) e w':=by
 intro f
 induction f with
 | zero=>
  intro o L page s deep w hI hfr hd0 hd1
  cases ho:T9 P o page with
  | none=>exact z5r P a c o L B gu page s deep 0 w0 w hI ho
  | some r=>
   obtain⟨o1,k,b⟩:=r;have:=(Sz P ho).1;omega
 | succ f ih=>
  intro o L page s deep w hI hfr hd0 hd1
  cases ho:T9 P o page with
  | none=>exact z5r P a c o L B gu page s deep (f+1) w0 w hI ho
  | some r=>
   obtain⟨o1,k,b⟩:=r
   by_cases hth:1<deep∧b.length<126
   ·exact z7s P a c o L B gu page s deep (f+1) w0 w hI o1 k b ho hth
   ·by_cases h1:k=1
    ·subst h1
     cases hc:L9 b with
     | none=>exact F4 P a c o L B gu page s deep (f+1) w0 w hI o1 b ho hth (.inl hc)
     | some cs=>
      by_cases h2:cs=[]∨(0<o.d∧o.d≠deep)
      ·exact F4 P a c o L B gu page s deep (f+1) w0 w hI o1 b ho hth (.inr ⟨cs,hc,h2⟩)
      ·exact z7y P a c o L B gu page s deep f w0 w hI o1 b cs ho hth hc (fun h=>h2 (.inl h)) (fun h=>h2 (.inr h)) hfr
    ·by_cases h2:k=2
     ·subst h2
      cases hc:S9 b with
      | none=>exact z3m P a c o L B gu page s deep (f+1) w0 w hI o1 b ho hth hc
      | some x=>
       obtain⟨ks,ps⟩:=x;exact y6j P a c o L B gu page s deep f w0 w hI o1 b ks ps ho hth hc hfr hd0 (by omega) (fun o L page s deep w hI h1 h2 h3=>ih o L page s deep w hI h1 h2 h3)
     ·exact z7t P a c o L B gu page s deep (f+1) w0 w hI o1 k b ho hth h1 h2
end Go.Proofs.YtdgladhfibfdlaaGreatDoor
