/-
  Steps.
-/
import Derived.Test.YtdgladhfibfdlaaGreatDoorQPLs28
import Derived.Test.YtdgladhfibfdlaaGreatDoorQPLs35
namespace Go.Proofs.YtdgladhfibfdlaaGreatDoor
open Go Go.RowKit
theorem q5p {P:List (List Nat)}{f:Nat}{o:RO}{s:ByteArray}{long:Int}:valF P f o s 0 long=if (s.size:Int)=long then some (o,s) else none:=by
 cases f<;>(unfold valF;rw[if_pos rfl])
theorem q3j {P:List (List Nat)}{f:Nat}{o:RO}{s:ByteArray}{page long:Int}(hp:page≠0)(h:z2f P o page=none):valF P f o s page long=none:=by
 cases f with
 | zero=>unfold valF;rw[if_neg hp]
 | succ f=>unfold valF;rw[if_neg hp,h]
theorem x9i {P:List (List Nat)}{f:Nat}{o o1:RO}{s:ByteArray}{page long:Int}{k:Nat}{b:List Nat}(hp:page≠0)(h:z2f P o page=some (o1,k,b))(hb:z23 k b s long):valF P f o s page long=none:=by
 cases f with
 | zero=>unfold valF;rw[if_neg hp]
 | succ f=>unfold valF;rw[if_neg hp,h];simp only;rw[if_pos hb]
theorem q3k {P:List (List Nat)}{f:Nat}{o o1:RO}{s:ByteArray}{page long:Int}{k:Nat}{b:List Nat}(hp:page≠0)(h:z2f P o page=some (o1,k,b))(hb:¬z23 k b s long):valF P (f+1) o s page long=valF P f o1 (s++dcV b) (dcN b) long:=by
 unfold valF;rw[if_neg hp,h];simp only;rw[if_neg hb]
 cases f<;>rfl
theorem x9j (v:Value)(b:List Nat)(w:World)(hv:Sl w v b)(h8:B8 b)(hl:b.length≤504):
  Calls Tryz.prog 112 #[v] w fun e w'=>e=.returned (.tuple #[.int .i64 (dcN b),.string (dcV b),.int .i64 (dcE b)])∧Below w.heap.size w w':=by
 obtain⟨a,c,rfl,hs,_,h1,h2⟩:=hv.arg;exact y5b a _ c b w rfl hs h1 (by omega) h2 h8
theorem x9k (b:List Nat)(h:b.length≤504):(dcV b).size≤504:=by
 unfold dcV;split
 ·rw[z8w,zld];omega
 ·decide
set_option maxRecDepth 100000 in
set_option maxHeartbeats 4000000 in
theorem x1p (P:List (List Nat))(a:Option Addr)(c:Nat)(o:RO)(L:Value)(hL:IsS L)(gu:Nat)(page long:Int)(f:Nat)(w0 w:World)(hb0:Below w0.heap.size w0 w)(hpg:PgIn w0 a P)(hU:Blk w gu BLT (yl P.length o.u))(hgu:w0.heap.size≤gu)(hf:z1n o.u P.length≤f)(hl2:long≤100000):
  Calls Tryz.prog 85 #[.agg (ov L (uv gu P.length) o.d false),.slice a P.length c,.int .i64 page,.int .i64 long] w fun e w'=>
   (
    (valF P f o ByteArray.empty page long=none∧∃s,e=.returned (.tuple #[.agg (ov L (uv gu P.length) o.d true),.string s]))∨
    (∃o1 v,valF P f o ByteArray.empty page long=some (o1,v)∧e=.returned (.tuple #[.agg (ov L (uv gu P.length) o.d false),.string v])∧Blk w' gu BLT (yl P.length o1.u)))∧Turn (fun x=>x=gu) w w':=by
 obtain⟨R,hR⟩:∃R,valF P f o ByteArray.empty page long=R:=⟨_,rfl⟩
 obtain⟨n,hn⟩:∃n,P.length=n:=⟨_,rfl⟩
 have C0:=zh (fun(x:RO) (i:Int) (wx:World) (h1:Below w0.heap.size w0 wx) (h2:Blk wx gu BLT (yl P.length x.u)) h3=>z3w P a c x L hL gu i w0 wx h1 hpg h2 hgu h3);have C1:=zh (fun(x:RO) (i:Int) (wx:World) (h1:Below w0.heap.size w0 wx) (h2:Blk wx gu BLT (yl P.length x.u)) o1 k b h3=>z26 P a c x L hL gu i w0 wx h1 hpg h2 hgu o1 k b h3);have CD:=zh (fun(v:Value) (b:List Nat) (wx:World) (hv:Sl wx v b) (hb:B8 b) (hl:b.length≤504)=>x9j v b wx hv hb hl);have HR:=zh hR;rw[hR,hn];have oT:=fun b=>z5l hL gu n o.d b
 rw[hn] at hU hf C0 C1;obtain⟨U,hUv⟩:∃U,uv gu n=U:=⟨_,rfl⟩
 rw[hUv] at oT C0 C1⊢
 obtain⟨D,hD⟩:∃D,o.d=D:=⟨_,rfl⟩
 rw[hD] at oT⊢
 have HL:=zh hL;have HUs:Hid (IsS U):=by show IsS U;rw[←hUv];exact⟨_,_,_,rfl⟩
 have HU:=zh hU;have HB0:=zh hb0;have Hgu:=zh hgu;have Hn:=zh hn;have HD:=zh hD;have Hf:=zh hf;clear hb0 hpg hU hgu hn hUv hL hR hD hf
 go_enter Tryz.func85,Tryz.ntmps85
 go_wp2_with (first
  | (refine z0e rfl ROT (.tmp 0) rfl (ov L U D false) (by rfl) ?_;intro g4 w1 hg4 hk4 hb4)
  | (show wpList _ _ _ (⟨some 8,_,_,_,_,_⟩::_) _ _;refine wpList_alloc_arr rfl ROT rfl z1l ?_;intro g8 w2 hg8 hk8 hb8))
 have K4:=zh (hk4.ext hb8);have K8:=zh hk8;have KU:=zh (HU.out.ext (hb4.trans (hb8.mono hb4.size)));have HT:Hid (Turn (fun x=>x=gu) w w2):=(q50 hb4).trans (q50 (hb8.mono (zlr _)));have N48:Hid (g4≠g8):=by show _≠_;have:=hk4.lt;omega
 have Z4:Hid (w.heap.size≤g4):=hg4;have Z8:Hid (w.heap.size≤g8):=by show _≤_;have:=hb4.size;omega
 clear hg4 hk4 hb4 hg8 hk8 hb8 HU
 go_loopg [2,10,11,12,13,14,15,16] f (fun gk pg sv _ _ _ _ _ _ wr=>∃(x:RO) (s:ByteArray) (q:Int),pg=.int .i64 q∧sv=.string s∧s.size≤200000∧Hid (valF P gk x s q long=R)∧Hid (z1n x.u n≤gk)∧Hid (x.d=D)∧Hid (Blk wr g4 ROT (ov L U D false))∧Hid (Blk wr g8 ROT (ov nilS nilS 0 false))∧Hid (Blk wr gu BLT (yl n x.u))∧Hid (Turn (fun y=>y=gu) w wr))
 case atStart=>exact⟨o,ByteArray.empty,page,rfl,rfl,by decide,HR,Hf,HD,K4,K8,KU,HT⟩
 case round=>
  clear K4 K8 KU HT HR Hf HD;obtain⟨x,s,q,rfl,rfl,hs,HR,Hf,HD,K4,K8,KU,HT⟩:=hrel
  by_cases hq:q=0
  ·subst hq;rw[q5p] at HR
   by_cases hsz:(s.size:Int)=long
   ·have d1:((s.size:Int) !=long)=false:=by rw[hsz];simp
    rw[if_pos hsz] at HR;clear hsz;have q3:=K4.out.o3
    go_wp2_with (first
     | (refine z0g rfl BLT (.tmp 77) (.tmp 76) rfl g4 3 (.bool false) (ov L U D false) ROT (z0r _) (by rfl) (by rfl) K4.out (by show 3<4;decide) ?_;intro w5 hk5 ht5;have J4:Hid (Blk w5 g4 ROT (ov L U D false)):=hk5;have J8:=zh (K8.out.turn ht5 (fun e=>N48.out e.symm));have JU:=zh (KU.out.turn ht5 (fun e=>(K4.out.ne KU.out (by decide)) e.symm));have T5:Hid (Turn (fun y=>y=gu) w w5):=HT.out.step ht5 (fun i hi hlt=>by subst hi;have:=Z4.out;omega);clear hk5 ht5 q3)
     | (show wpList _ _ _ (⟨some 78,_,_,_,_,_⟩::_) _ _;refine z0c rfl ROT (.tmp 4) rfl g4 0 (ov L U D false) (by rfl) z0d J4.out.at (z0a _ _ _ _) ?_)
     | (refine z0b rfl ROT (.tmp 8) (.tmp 78) rfl g8 (ov L U D false) _ ROT (by rfl) (by rfl) z0d J8.out (z0a _ _ _ _) (z0a _ _ _ _) (oT _) ?_;intro w9 hk9 ht9 hs9))
    refine bodyPost_ret (v:=.tuple #[.agg (ov L U D false),.string s]) ?_ rfl ?_
    ·exact z12 z0d rfl _ _ g8 _ _ (by rfl) (by rfl) hk9 (z0a _ _ _ _)
    ·exact⟨.inr ⟨x,s,HR.out.symm,rfl,JU.out.turn ht9 (fun e=>(J8.out.ne JU.out (by decide)) e.symm)⟩,T5.out.step ht9 (fun i hi hlt=>by subst hi;have:=Z8.out;omega)⟩
   ·have d1:((s.size:Int) !=long)=true:=by simp;exact hsz
    rw[if_neg hsz] at HR;clear hsz;have q3:=K4.out.o3
    go_wp2_with (first
     | (refine z0g rfl BLT (.tmp 77) (.tmp 76) rfl g4 3 (.bool true) (ov L U D false) ROT (z0r _) (by rfl) (by rfl) K4.out (by show 3<4;decide) ?_;intro w5 hk5 ht5;have J4:Hid (Blk w5 g4 ROT (ov L U D true)):=hk5;have J8:=zh (K8.out.turn ht5 (fun e=>N48.out e.symm));have JU:=zh (KU.out.turn ht5 (fun e=>(K4.out.ne KU.out (by decide)) e.symm));have T5:Hid (Turn (fun y=>y=gu) w w5):=HT.out.step ht5 (fun i hi hlt=>by subst hi;have:=Z4.out;omega);clear hk5 ht5 q3)
     | (show wpList _ _ _ (⟨some 78,_,_,_,_,_⟩::_) _ _;refine z0c rfl ROT (.tmp 4) rfl g4 0 (ov L U D true) (by rfl) z0d J4.out.at (z0a _ _ _ _) ?_)
     | (refine z0b rfl ROT (.tmp 8) (.tmp 78) rfl g8 (ov L U D true) _ ROT (by rfl) (by rfl) z0d J8.out (z0a _ _ _ _) (z0a _ _ _ _) (oT _) ?_;intro w9 hk9 ht9 hs9))
    have HN:Hid (R=none):=HR.out.symm;refine bodyPost_ret (v:=.tuple #[.agg (ov L U D true),.string s]) ?_ rfl ?_
    ·exact z12 z0d rfl _ _ g8 _ _ (by rfl) (by rfl) hk9 (z0a _ _ _ _)
    ·exact⟨.inl ⟨HN.out,_,rfl⟩,T5.out.step ht9 (fun i hi hlt=>by subst hi;have:=Z8.out;omega)⟩
  ·have dq:(q !=0)=true:=by simp;exact hq
   have q3:=K4.out.o3;have B1:=zh (HB0.out.trans (HT.out.below HB0.out.size (fun i hi=>by subst hi;exact Hgu.out)))
   cases ho:z2f P x q with
   | none=>
    have H1:=zh (C0.out x q wr B1.out KU.out ho);rw[HD.out] at H1;have HN:Hid (R=none):=by show _=_;rw[←HR.out];exact q3j hq ho
    clear ho HR hq
    go_wp2_with (show wpList _ _ _ (⟨some 25,_,_,_,_,_⟩::_) _ _;refine z0c rfl ROT (.tmp 4) rfl g4 0 (ov L U D false) (by rfl) z0d K4.out.at (z0a _ _ _ _) ?_)
    refine H1.out.mono ?_;rintro e w3 ⟨rfl,ht⟩;have M4:=zh (K4.out.turn ht (K4.out.ne KU.out (by decide)));have M8:=zh (K8.out.turn ht (K8.out.ne KU.out (by decide)));have MT:=zh (HT.out.trans ht);clear ht q3 H1 K4 K8 KU HT
    go_wp2_with (first
     | (show wpList _ _ _ (⟨some 11,_,_,_,_,_⟩::_) _ _;refine wpList_alloc_arr rfl ROT rfl z1l ?_;intro g11 w4 hg11 hk11 hb11)
     | (refine z0b rfl ROT (.tmp 11) (.tmp 29) rfl g11 (ov L U D true) _ ROT (by rfl) (by rfl) z0d hk11 (z0a _ _ _ _) (z0a _ _ _ _) (oT _) ?_;intro w5 hk5 ht5 hs5;have bb:Ext w3 w5:=hb11.trans (ht5.below hb11.size (fun i hi=>by subst hi;exact hg11));have O11:=zh hk5;have O4:=zh (M4.out.ext bb);have O8:=zh (M8.out.ext bb);have OT:=zh (MT.out.trans (q50 bb));clear hg11 hk11 hb11 hk5 ht5 hs5)
     | (show wpList _ _ _ (⟨some 32,_,_,_,_,_⟩::_) _ _;refine z0c rfl ROT (.tmp 11) rfl g11 0 (ov L U D true) (by rfl) z0d O11.out.at (z0a _ _ _ _) ?_)
     | (refine z0b rfl ROT (.tmp 4) (.tmp 32) rfl g4 (ov L U D true) _ ROT (by rfl) (by rfl) z0d O4.out (z0a _ _ _ _) (z0a _ _ _ _) (oT _) ?_;intro w6 hk6 ht6 hs6;have Q4:=zh hk6;have Q8:=zh (O8.out.turn ht6 (fun e=>N48.out e.symm));have QT:=zh (OT.out.step ht6 (fun i hi hlt=>by subst hi;have:=Z4.out;omega));have q3:=hk6.o3;clear hk6 ht6 hs6 O4 O8 O11 OT)
     | (show wpList _ _ _ (⟨some 35,_,_,_,_,_⟩::_) _ _;refine z0c rfl ROT (.tmp 4) rfl g4 0 (ov L U D true) (by rfl) z0d Q4.out.at (z0a _ _ _ _) ?_)
     | (refine z0b rfl ROT (.tmp 8) (.tmp 35) rfl g8 (ov L U D true) _ ROT (by rfl) (by rfl) z0d Q8.out (z0a _ _ _ _) (z0a _ _ _ _) (oT _) ?_;intro w9 hk9 ht9 hs9;clear q3))
    refine bodyPost_ret (v:=.tuple #[.agg (ov L U D true),.string ⟨#[]⟩]) ?_ rfl ?_
    ·exact z12 z0d rfl _ _ g8 _ _ (by rfl) (by rfl) hk9 (z0a _ _ _ _)
    ·exact⟨.inl ⟨HN.out,_,rfl⟩,QT.out.step ht9 (fun i hi hlt=>by subst hi;have:=Z8.out;omega)⟩
   | some y=>
    obtain⟨x1,kd,b⟩:=y;obtain⟨k,rfl⟩:∃k,gk=k+1:=⟨gk-1,by have:=z2j P ho;have h1:=Hf.out;rw[Hn.out] at this;omega⟩
    have hfr:=z2j P ho;rw[Hn.out] at hfr;have Hf1:Hid (z1n x1.u n≤k):=by show _≤_;have:=Hf.out;omega
    have HD1:Hid (x1.d=D):=hfr.2.2.trans HD.out;have H1:=zh (C1.out x q wr B1.out KU.out x1 kd b ho);rw[HD.out] at H1;have hbl:b.length≤504:=by obtain⟨_,_,_,_,_,_,rfl⟩:=z20 P ho;exact z9o _
    have Hbl:=zh hbl;have hv5:=x9k b hbl;have HY:Hid (¬z23 kd b s long→valF P k x1 (s++dcV b) (dcN b) long=R):=fun h=>by rw[←HR.out,q3k hq ho h]
    have HN2:Hid (z23 kd b s long→R=none):=fun h=>by rw[←HR.out];exact x9i hq ho h
    have HPB:Hid (z23 kd b s long↔(kd≠3∨dcE b≠0∨long<(s++dcV b).size∨(dcN b≠0∧(dcV b).size<502))):=Iff.rfl;have hsz:(s++dcV b).size=s.size+(dcV b).size:=ByteArray.size_append;clear ho HR hq hfr hbl Hf HD
    go_wp2_with (show wpList _ _ _ (⟨some 25,_,_,_,_,_⟩::_) _ _;refine z0c rfl ROT (.tmp 4) rfl g4 0 (ov L U D false) (by rfl) z0d K4.out.at (z0a _ _ _ _) ?_)
    refine H1.out.mono ?_;rintro e w3 ⟨vl,rfl,hsv,hb8,hku,ht⟩;have M4:=zh (K4.out.turn ht (K4.out.ne KU.out (by decide)));have M8:=zh (K8.out.turn ht (K8.out.ne KU.out (by decide)));have MU:=zh hku;have MS:=zh hsv;have HB8:=zh hb8;have MT:=zh (HT.out.trans ht);clear ht q3 H1 K4 K8 KU HT hku hsv hb8
    go_wp2_with (first
     | (show wpList _ _ _ (⟨some 11,_,_,_,_,_⟩::_) _ _;refine wpList_alloc_arr rfl ROT rfl z1l ?_;intro g11 w4 hg11 hk11 hb11)
     | (refine z0b rfl ROT (.tmp 11) (.tmp 29) rfl g11 (ov L U D false) _ ROT (by rfl) (by rfl) z0d hk11 (z0a _ _ _ _) (z0a _ _ _ _) (oT _) ?_;intro w5 hk5 ht5 hs5;have bb:Ext w3 w5:=hb11.trans (ht5.below hb11.size (fun i hi=>by subst hi;exact hg11));have O11:=zh hk5;have O4:=zh (M4.out.ext bb);have O8:=zh (M8.out.ext bb);have OU:=zh (MU.out.ext bb);have OS:=zh (MS.out.below bb (zlr _));have OT:=zh (MT.out.trans (q50 bb));clear hg11 hk11 hb11 hk5 ht5 hs5)
     | (show wpList _ _ _ (⟨some 32,_,_,_,_,_⟩::_) _ _;refine z0c rfl ROT (.tmp 11) rfl g11 0 (ov L U D false) (by rfl) z0d O11.out.at (z0a _ _ _ _) ?_)
     | (refine z0b rfl ROT (.tmp 4) (.tmp 32) rfl g4 (ov L U D false) _ ROT (by rfl) (by rfl) z0d O4.out (z0a _ _ _ _) (z0a _ _ _ _) (oT _) ?_;intro w6 hk6 ht6 hs6;have Q4:=zh hk6;have Q8:=zh (O8.out.turn ht6 (fun e=>N48.out e.symm));have QU:=zh (OU.out.turn ht6 (fun e=>(O4.out.ne OU.out (by decide)) e.symm));have QS:=zh (OS.out.turn ht6 (z25 O4.out HL.out HUs.out));have QT:=zh (OT.out.step ht6 (fun i hi hlt=>by subst hi;have:=Z4.out;omega));have q3:=hk6.o3;clear hk6 ht6 hs6 O4 O8 O11 OT))
    refine(CD.out vl b w6 QS.out HB8.out Hbl.out).mono ?_;rintro e w7 ⟨rfl,hb7⟩;have R4:=zh (Q4.out.ext hb7);have R8:=zh (Q8.out.ext hb7);have RU:=zh (QU.out.ext hb7);have RT:=zh (QT.out.trans (q50 hb7));have r3:=R4.out.o3;clear hb7 q3 Q4 Q8 QU QS QT M4 M8 MU MS MT;obtain⟨PV,hPV⟩:∃PV,dcV b=PV:=⟨_,rfl⟩
    obtain⟨NX,hNX⟩:∃NX,dcN b=NX:=⟨_,rfl⟩
    obtain⟨ER,hER⟩:∃ER,dcE b=ER:=⟨_,rfl⟩
    obtain⟨NV,hNV⟩:∃NV,s++PV=NV:=⟨_,rfl⟩
    rw[hPV] at HY HPB hsz hv5⊢
    rw[hNX] at HY HPB⊢
    rw[hER] at HPB⊢
    rw[hNV] at HY HPB hsz;have hadd:¬(9223372036854775807<s.size+PV.size):=by omega
    have hnv:NV.size≤s.size+504:=by omega
    clear hPV hNX hER hsz
    by_cases hk3:kd=3
    ·have d1:((kd:Int) !=3)=false:=by rw[hk3];rfl
     by_cases he0:ER=0
     ·have d2:(ER !=0)=false:=by rw[he0];rfl
      by_cases hln:long<(NV.size:Int)
      ·have d3:decide (long<(NV.size:Int))=true:=zdt hln;have HN:Hid (R=none):=HN2.out (HPB.out.2 (by omega));clear hk3 he0 hln;clear HY HPB HN2
       go_wp2_with (first
        | (refine z0g rfl BLT (.tmp 66) (.const (.bool true)) rfl g4 3 (.bool true) (ov L U D false) ROT (z0r _) (by rfl) (by rfl) R4.out (by show 3<4;decide) ?_;intro wa hka hta;have J4:Hid (Blk wa g4 ROT (ov L U D true)):=hka;have J8:=zh (R8.out.turn hta (fun e=>N48.out e.symm));have T5:Hid (Turn (fun y=>y=gu) w wa):=RT.out.step hta (fun i hi hlt=>by subst hi;have:=Z4.out;omega);clear hka hta r3)
        | (show wpList _ _ _ (⟨some 67,_,_,_,_,_⟩::_) _ _;refine z0c rfl ROT (.tmp 4) rfl g4 0 (ov L U D true) (by rfl) z0d J4.out.at (z0a _ _ _ _) ?_)
        | (refine z0b rfl ROT (.tmp 8) (.tmp 67) rfl g8 (ov L U D true) _ ROT (by rfl) (by rfl) z0d J8.out (z0a _ _ _ _) (z0a _ _ _ _) (oT _) ?_;intro w9 hk9 ht9 hs9))
       refine bodyPost_ret (v:=.tuple #[.agg (ov L U D true),.string ⟨#[]⟩]) ?_ rfl ?_
       ·exact z12 z0d rfl _ _ g8 _ _ (by rfl) (by rfl) hk9 (z0a _ _ _ _)
       ·exact⟨.inl ⟨HN.out,_,rfl⟩,T5.out.step ht9 (fun i hi hlt=>by subst hi;have:=Z8.out;omega)⟩
      ·have d3:decide (long<(NV.size:Int))=false:=zdf hln
       by_cases hnx:NX=0
       ·have d4:(NX !=0)=false:=by rw[hnx];rfl
        have HS2:Hid (valF P k x1 NV NX long=R):=HY.out (fun h=>by have:=HPB.out.1 h;omega);have hle:NV.size≤200000:=by omega
        clear hnx HY HPB HN2 hk3 he0 hln;go_wp2
        go_roundg k
        case rel=>exact⟨x1,NV,NX,rfl,rfl,hle,HS2,Hf1,HD1,R4,R8,RU,RT⟩
        case measure=>omega
       ·have d4:(NX !=0)=true:=by simp;exact hnx
        by_cases hpv:PV.size<502
        ·have d5:decide ((PV.size:Int)<502)=true:=zdt (by omega);have d6:decide (PV.size<502)=true:=zdt hpv;have HN:Hid (R=none):=HN2.out (HPB.out.2 (by omega));clear hk3 he0 hln hnx hpv;clear HY HPB HN2
         go_wp2_with (first
          | (refine z0g rfl BLT (.tmp 66) (.const (.bool true)) rfl g4 3 (.bool true) (ov L U D false) ROT (z0r _) (by rfl) (by rfl) R4.out (by show 3<4;decide) ?_;intro wa hka hta;have J4:Hid (Blk wa g4 ROT (ov L U D true)):=hka;have J8:=zh (R8.out.turn hta (fun e=>N48.out e.symm));have T5:Hid (Turn (fun y=>y=gu) w wa):=RT.out.step hta (fun i hi hlt=>by subst hi;have:=Z4.out;omega);clear hka hta r3)
          | (show wpList _ _ _ (⟨some 67,_,_,_,_,_⟩::_) _ _;refine z0c rfl ROT (.tmp 4) rfl g4 0 (ov L U D true) (by rfl) z0d J4.out.at (z0a _ _ _ _) ?_)
          | (refine z0b rfl ROT (.tmp 8) (.tmp 67) rfl g8 (ov L U D true) _ ROT (by rfl) (by rfl) z0d J8.out (z0a _ _ _ _) (z0a _ _ _ _) (oT _) ?_;intro w9 hk9 ht9 hs9))
         refine bodyPost_ret (v:=.tuple #[.agg (ov L U D true),.string ⟨#[]⟩]) ?_ rfl ?_
         ·exact z12 z0d rfl _ _ g8 _ _ (by rfl) (by rfl) hk9 (z0a _ _ _ _)
         ·exact⟨.inl ⟨HN.out,_,rfl⟩,T5.out.step ht9 (fun i hi hlt=>by subst hi;have:=Z8.out;omega)⟩
        ·have d5:decide ((PV.size:Int)<502)=false:=zdf (by omega);have d6:decide (PV.size<502)=false:=zdf hpv;have HS2:Hid (valF P k x1 NV NX long=R):=HY.out (fun h=>by have:=HPB.out.1 h;omega);have hle:NV.size≤200000:=by omega
         clear hnx hpv HY HPB HN2 hk3 he0 hln;go_wp2
         go_roundg k
         case rel=>exact⟨x1,NV,NX,rfl,rfl,hle,HS2,Hf1,HD1,R4,R8,RU,RT⟩
         case measure=>omega
     ·have d2:(ER !=0)=true:=by simp;exact he0
      have HN:Hid (R=none):=HN2.out (HPB.out.2 (by omega));clear hk3 he0;clear HY HPB HN2
      go_wp2_with (first
       | (refine z0g rfl BLT (.tmp 66) (.const (.bool true)) rfl g4 3 (.bool true) (ov L U D false) ROT (z0r _) (by rfl) (by rfl) R4.out (by show 3<4;decide) ?_;intro wa hka hta;have J4:Hid (Blk wa g4 ROT (ov L U D true)):=hka;have J8:=zh (R8.out.turn hta (fun e=>N48.out e.symm));have T5:Hid (Turn (fun y=>y=gu) w wa):=RT.out.step hta (fun i hi hlt=>by subst hi;have:=Z4.out;omega);clear hka hta r3)
       | (show wpList _ _ _ (⟨some 67,_,_,_,_,_⟩::_) _ _;refine z0c rfl ROT (.tmp 4) rfl g4 0 (ov L U D true) (by rfl) z0d J4.out.at (z0a _ _ _ _) ?_)
       | (refine z0b rfl ROT (.tmp 8) (.tmp 67) rfl g8 (ov L U D true) _ ROT (by rfl) (by rfl) z0d J8.out (z0a _ _ _ _) (z0a _ _ _ _) (oT _) ?_;intro w9 hk9 ht9 hs9))
      refine bodyPost_ret (v:=.tuple #[.agg (ov L U D true),.string ⟨#[]⟩]) ?_ rfl ?_
      ·exact z12 z0d rfl _ _ g8 _ _ (by rfl) (by rfl) hk9 (z0a _ _ _ _)
      ·exact⟨.inl ⟨HN.out,_,rfl⟩,T5.out.step ht9 (fun i hi hlt=>by subst hi;have:=Z8.out;omega)⟩
    ·have d1:((kd:Int) !=3)=true:=by simp;omega
     have HN:Hid (R=none):=HN2.out (HPB.out.2 (by omega));clear hk3;clear HY HPB HN2
     go_wp2_with (first
      | (refine z0g rfl BLT (.tmp 66) (.const (.bool true)) rfl g4 3 (.bool true) (ov L U D false) ROT (z0r _) (by rfl) (by rfl) R4.out (by show 3<4;decide) ?_;intro wa hka hta;have J4:Hid (Blk wa g4 ROT (ov L U D true)):=hka;have J8:=zh (R8.out.turn hta (fun e=>N48.out e.symm));have T5:Hid (Turn (fun y=>y=gu) w wa):=RT.out.step hta (fun i hi hlt=>by subst hi;have:=Z4.out;omega);clear hka hta r3)
      | (show wpList _ _ _ (⟨some 67,_,_,_,_,_⟩::_) _ _;refine z0c rfl ROT (.tmp 4) rfl g4 0 (ov L U D true) (by rfl) z0d J4.out.at (z0a _ _ _ _) ?_)
      | (refine z0b rfl ROT (.tmp 8) (.tmp 67) rfl g8 (ov L U D true) _ ROT (by rfl) (by rfl) z0d J8.out (z0a _ _ _ _) (z0a _ _ _ _) (oT _) ?_;intro w9 hk9 ht9 hs9))
     refine bodyPost_ret (v:=.tuple #[.agg (ov L U D true),.string ⟨#[]⟩]) ?_ rfl ?_
     ·exact z12 z0d rfl _ _ g8 _ _ (by rfl) (by rfl) hk9 (z0a _ _ _ _)
     ·exact⟨.inl ⟨HN.out,_,rfl⟩,T5.out.step ht9 (fun i hi hlt=>by subst hi;have:=Z8.out;omega)⟩
def QFT (B gu:Nat)(w:World)(x:Nat):Prop:=x=gu∨(B≤x∧∃cs fz,w.heap[x]? =some (.cells cs RET fz))
def KT (B gu:Nat)(w w':World):Prop:=Turn (QFT B gu w) w w'
theorem KT.trans {B gu:Nat}{a b c:World}(h:KT B gu a b)(k:KT B gu b c):KT B gu a c:=Turn.step h k (fun i hi hlt=>by
 by_cases hF:QFT B gu a i
 ·exact hF
 ·rcases hi with rfl|⟨hB,cs,fz,hc⟩
  ·exact .inl rfl
  ·exact .inr ⟨hB,cs,fz,by rw[←h.block i hlt hF];exact hc⟩)
theorem q60 {B gu:Nat}{a b:World}(t:Turn (fun x=>x=gu) a b):KT B gu a b:=t.mono (fun _ hi _=> .inl hi)
theorem q51 {B gu:Nat}{a b:World}(h:Ext a b):KT B gu a b:=q50 h
theorem KT.ext {B gu:Nat}{a b c:World}(h:KT B gu a b)(k:Ext b c):KT B gu a c:=h.trans (q51 k)
theorem KT.gu {B gu:Nat}{a b c:World}(h:KT B gu a b)(k:Turn (fun x=>x=gu) b c):KT B gu a c:=h.trans (q60 k)
theorem KT.mine {B gu g:Nat}{a b c:World}(h:KT B gu a b)(k:Turn (fun x=>x=g) b c)(hg:a.heap.size≤g):KT B gu a c:=Turn.step h k (fun _ hi hlt=>by subst hi;omega)
theorem KT.row {B gu:Nat}{a b c:World}{v:Value}{n:Nat}{xs:List Value}(h:KT B gu a b)(ho:b.ownsRow B RET 2 v n xs)(k:Turn (fun x=>v.ownBlock=some x) b c):KT B gu a c:=
 h.trans (k.mono (fun i hi _=>by
  rcases ho.2 with ⟨rfl,_⟩|⟨g,cap,cur,rfl,hB,hg,_⟩
  ·cases hi
  ·cases hi
   exact .inr ⟨hB,_,_,hg⟩))
theorem KT.size {B gu:Nat}{a b:World}(h:KT B gu a b):a.heap.size≤b.heap.size:=Turn.size h
theorem KT.blk {B gu:Nat}{a b:World}(h:KT B gu a b){g:Nat}{t:TypeId}{cs:Array Value}(hb:Blk a g t cs)(ht:t≠RET)(hg:g≠gu):Blk b g t cs:=Blk.turn hb h (fun hF=>by
 rcases hF with e|⟨_,ds,fz,hc⟩
 ·exact hg e
 ·have h1:a.heap[g]? =some (.cells cs t (0,0)):=hb;rw[h1] at hc
  cases hc
  exact ht rfl)
theorem KT.below {B gu:Nat}{a b:World}(h:KT B gu a b){C:Nat}(hC:C≤a.heap.size)(hB:C≤B)(hg:C≤gu):Below C a b:=Turn.below h hC (fun i hi=>by
 rcases hi with rfl|⟨h1,_⟩
 ·exact hg
 ·omega)
theorem KT.own {B gu:Nat}{a b:World}(h:KT B gu a b){C T sz n:Nat}{v:Value}{xs:List Value}(ho:a.ownsRow C T sz v n xs)(ht:T≠RET)(hg:∀cs,¬Blk a gu T cs):b.ownsRow C T sz v n xs:=by
 refine⟨ho.1,?_⟩
 rcases ho.2 with h1|⟨g,cap,cur,rfl,hB,hh,r⟩
 ·exact .inl h1
 ·exact .inr ⟨g,cap,cur,rfl,hB,h.blk (t:=T) (cs:=cur) hh ht (fun e=>by subst e;exact hg _ hh),r⟩
theorem z06 {w:World}{B T sz n:Nat}{v:Value}{xs:List Value}(h:w.ownsRow B T sz v n xs):IsS v:=by
 rcases h.2 with ⟨rfl,_⟩|⟨g,cap,cur,rfl,_⟩<;>exact⟨_,_,_,rfl⟩
theorem x9l {w w':World}{B n:Nat}{v:Value}{xs:List Value}{F:Nat→Prop}(h:w.ownsRow B RET 2 v n xs)(t:Turn F w w')(hF:∀x cs fz,w.heap[x]? =some (.cells cs RET fz)→¬F x):w'.ownsRow B RET 2 v n xs:=by
 refine⟨h.1,?_⟩
 rcases h.2 with h1|⟨g,cap,cur,rfl,hB,hg,r⟩
 ·exact .inl h1
 ·exact .inr ⟨g,cap,cur,rfl,hB,t.hg hg (hF g _ _ hg),r⟩
theorem z0q {w w':World}{B n g:Nat}{v:Value}{xs:List Value}{t:TypeId}{cs:Array Value}(h:w.ownsRow B RET 2 v n xs)(k:Turn (fun x=>x=g) w w')(hb:Blk w g t cs)(ht:t≠RET):w'.ownsRow B RET 2 v n xs:=
 x9l h k (fun x ds fz hx e=>by
  subst e;have h1:w.heap[x]? =some (.cells cs t (0,0)):=hb;rw[h1] at hx
  cases hx
  exact ht rfl)
theorem z1g {w w':World}{B T sz n:Nat}{v:Value}{xs:List Value}(h:w.ownsRow B T sz v n xs)(hb:Ext w w'):w'.ownsRow B T sz v n xs:=by
 refine⟨h.1,?_⟩
 rcases h.2 with h1|⟨g,cap,cur,rfl,hB,hg,r⟩
 ·exact .inl h1
 ·exact .inr ⟨g,cap,cur,rfl,hB,(hb.block g (zag.1 hg).1).trans hg,r⟩
theorem y06 (W:World)(B:Nat)(v:Value)(n:Nat)(l:List En)(hown:W.ownsRow B RET 2 v n (entE.row l))(hB:B≤W.heap.size)(g:Nat)(e:En)(hlit:ES entE W (some ⟨g,0,none⟩) [e])(hn:n≤1000000):
  ∃v' w',(Builtin.append_ #[SRET,SRET] SRET #[v,.slice (some ⟨g,0,none⟩) 1 1]).run Tryz.prog W=.ok v' w'∧w'.ownsRow B RET 2 v' (n+1) (entE.row (l++[e]))∧Turn (fun x=>v.ownBlock=some x) W w':=by
 obtain⟨i0,hi,hz,hs0,hby⟩:=info_parts y9a;obtain⟨g9,o9,h9,hc9⟩:=hlit.at (by simp);obtain⟨rfl,rfl⟩:g=g9∧0=o9:=by
  injection h9 with h9
  injection h9 with h10 h11
  exact⟨h10,h11⟩
 obtain⟨v2,w3,hrun,ho3,hg3,_⟩:=run_append_own (P:=Tryz.prog) W B SRET SRET RET i0 entE.zero entE.sz entE.by_ Tryz.underlying29 hi hz hs0 hby entE.zc entE.pos v n (entE.row l) hown ⟨g,0,none⟩ 1 1 (entE.row [e]) (by rw[entE.row_len];rfl) (fun j u hu=>by rw[z2m];exact hc9 j u hu) (entE.row_one _) (by unfold maxLen;omega) (by show _*32≤_;omega) hB;refine⟨v2,w3,hrun,by rw[entE.row_app];exact ho3,?_⟩
 cases hv:v.ownBlock with
 | none=>rw[hv] at hg3;exact(Turn.refl _ W).grown hg3 (fun k hk=>by cases hk)
 | some b=>rw[hv] at hg3;exact(q52 hg3).mono (fun i hi _=>by rw[hi])
def spc (s:Sp):Array Value:= #[.string s.lo,.string s.hi,.bool s.op]
structure NIn (P:List (List Nat)) (a:Option Addr) (w0 w:World) (B gu:Nat) (o:RO) (L:Value):Prop where
 hb0:Below w0.heap.size w0 w
 pg:PgIn w0 a P
 use:Blk w gu BLT (yl P.length o.u)
 own:w.ownsRow B RET 2 L o.l.length (entE.row o.l)
 gu0:w0.heap.size≤gu
 B0:w0.heap.size≤B
 Bw:B≤w.heap.size
 few:o.l.length+504*z1n o.u P.length≤900000
def z44 (P:List (List Nat))(B gu:Nat)(w:World)(R:Option RO)(e:Ending)(w':World):Prop:=
 (
  (R=none∧∃(L1:Value) (d1:Int),IsS L1∧e=.returned (.agg (ov L1 (uv gu P.length) d1 true)))∨
  (∃(o1:RO) (L1:Value),R=some o1∧e=.returned (.agg (ov L1 (uv gu P.length) o1.d false))∧w'.ownsRow B RET 2 L1 o1.l.length (entE.row o1.l)∧Blk w' gu BLT (yl P.length o1.u)))∧KT B gu w w'
theorem x9m {P:List (List Nat)}{f:Nat}{o:RO}{page:Int}{s:Sp}{deep:Int}(h:z2f P o page=none):z1c P f o page s deep=none:=by
 cases f<;>unfold z1c
 ·rfl
 ·rw[h]
theorem x1q {P:List (List Nat)}{f:Nat}{o o1:RO}{page:Int}{s:Sp}{deep:Int}{k:Nat}{b:List Nat}(h:z2f P o page=some (o1,k,b))(ht:1<deep∧b.length<126):z1c P f o page s deep=none:=by
 cases f<;>unfold z1c
 ·rfl
 ·rw[h];simp only;rw[if_pos ht]
theorem x1r {P:List (List Nat)}{f:Nat}{o o1:RO}{page:Int}{s:Sp}{deep:Int}{k:Nat}{b:List Nat}(h:z2f P o page=some (o1,k,b))(h1:k≠1)(h2:k≠2):z1c P f o page s deep=none:=by
 cases f<;>unfold z1c
 ·rfl
 ·rw[h];simp only;rw[if_neg h1,if_neg h2];split<;>rfl
set_option maxRecDepth 100000 in
set_option maxHeartbeats 2000000 in
theorem y9q (P:List (List Nat))(a:Option Addr)(c:Nat)(o:RO)(L:Value)(B gu:Nat)(page:Int)(s:Sp)(deep:Int)(f:Nat)(w0 w:World)(hI:NIn P a w0 w B gu o L)(ho:z2f P o page=none):
  Calls Tryz.prog 55 #[.agg (ov L (uv gu P.length) o.d false),.slice a P.length c,.int .i64 page,.agg (spc s),.int .i64 deep] w fun e w'=>z44 P B gu w (z1c P f o page s deep) e w':=by
 obtain⟨R,hR⟩:∃R,z1c P f o page s deep=R:=⟨_,rfl⟩
 have HN:Hid (R=none):=by show R=none;rw[←hR];exact x9m ho
 rw[hR];have HO:=zh ho;clear ho hR;unfold z44;obtain⟨n,hn⟩:∃n,P.length=n:=⟨_,rfl⟩
 have HI:=zh hI;have Hn:=zh hn;have oT:=fun(M:Value) (hM:IsS M) (d:Int) b=>z5l hM gu n d b
 have HLs:Hid (IsS L):=z06 hI.own;have C0:=zh (fun(wx:World) (h1:Below w0.heap.size w0 wx) (h2:Blk wx gu BLT (yl P.length o.u)) h3=>z3w P a c o L (z06 hI.own) gu page w0 wx h1 hI.pg h2 hI.gu0 h3);have C1:=zh (fun(wx:World) (h1:Below w0.heap.size w0 wx) (h2:Blk wx gu BLT (yl P.length o.u)) o1 k b h3=>z26 P a c o L (z06 hI.own) gu page w0 wx h1 hI.pg h2 hI.gu0 o1 k b h3);have HU0:=zh hI.use;rw[hn] at C0 C1 HU0⊢
 obtain⟨U,hUv⟩:∃U,uv gu n=U:=⟨_,rfl⟩
 rw[hUv] at oT C0 C1⊢
 have HUv:=zh hUv;have HUs:Hid (IsS U):=by show IsS U;rw[←hUv];exact⟨_,_,_,rfl⟩
 obtain⟨D,hD⟩:∃D,o.d=D:=⟨_,rfl⟩
 rw[hD] at C0 C1⊢
 have HD:=zh hD;clear hI hn hUv hD
 go_enter Tryz.func55,Tryz.ntmps55
 go_wp2_with (first
  | (refine z0e rfl ROT (.tmp 0) rfl (ov L U D false) (by rfl) ?_;intro g5 w1 hg5 hk5 hb5)
  | (refine z0e rfl RSP (.tmp 3) rfl (spc s) (by rfl) ?_;intro g8 w2 hg8 hk8 hb8)
  | (show wpList _ _ _ (⟨some 10,_,_,_,_,_⟩::_) _ _;refine wpList_alloc_arr rfl ROT rfl z1l ?_;intro g10 w3 hg10 hk10 hb10;have bx:Ext w w3:=hb5.trans ((hb8.mono hb5.size).trans (hb10.mono (znt hb5.size hb8.size)));have K5:=zh ((hk5.ext hb8).ext hb10);have K8:=zh (hk8.ext hb10);have K10:=zh hk10;have KU:=zh (HU0.out.ext bx);have KL:=zh (z1g HI.out.own bx);have KW:Hid (KT B gu w w3):=q51 bx;have B3:Hid (Below w0.heap.size w0 w3):=HI.out.hb0.trans (Below.mono bx HI.out.hb0.size);have N58:Hid (g8≠g5):=(by show _≠_;have:=hk5.lt;omega);have N510:Hid (g10≠g5):=(by show _≠_;have h1:=hk5.lt;have h2:=hb8.size;omega);have Z5:Hid (w.heap.size≤g5):=hg5;have Z10:Hid (w.heap.size≤g10):=(by show _≤_;have h1:=hb5.size;have h2:=hb8.size;omega);clear hg5 hk5 hb5 hg8 hk8 hb8 hg10 hk10 hb10 bx)
  | (show wpList _ _ _ (⟨some 24,_,_,_,_,_⟩::_) _ _;refine z0c rfl ROT (.tmp 5) rfl g5 0 (ov L U D false) (by rfl) z0d K5.out.at (z0a _ _ _ _) ?_))
 refine(C0.out w3 B3.out KU.out HO.out).mono ?_;rintro e w4 ⟨rfl,ht⟩;have M5:=zh (K5.out.turn ht (K5.out.ne KU.out (by decide)));have M10:=zh (K10.out.turn ht (K10.out.ne KU.out (by decide)));have MT:=zh (KW.out.gu ht);clear ht C0 C1 K5 K8 K10 KU KL KW B3
 go_wp2_with (first
  | (refine z0b rfl ROT (.tmp 5) (.tmp 28) rfl g5 (ov L U D true) _ ROT (by rfl) (by rfl) z0d M5.out (z0a _ _ _ _) (z0a _ _ _ _) (oT L HLs.out _ _) ?_;intro w5 hk ht5 hs5;have P5:=zh hk;have P10:=zh (M10.out.turn ht5 N510.out);have PT:=zh (MT.out.mine ht5 Z5.out);have q3:=hk.o3;clear hk ht5 hs5 M5 M10 MT)
  | (refine z0g rfl BLT (.tmp 42) (.const (.bool true)) rfl g5 3 (.bool true) (ov L U D true) ROT (z0r _) (by rfl) (by rfl) P5.out (by show 3<4;decide) ?_;intro wb hkb htb;have J5:Hid (Blk wb g5 ROT (ov L U D true)):=hkb;have J10:=zh (P10.out.turn htb N510.out);have JT:=zh (PT.out.mine htb Z5.out);clear hkb htb)
  | (show wpList _ _ _ (⟨some 43,_,_,_,_,_⟩::_) _ _;refine z0c rfl ROT (.tmp 5) rfl g5 0 (ov L U D true) (by rfl) z0d J5.out.at (z0a _ _ _ _) ?_)
  | (refine z0b rfl ROT (.tmp 10) (.tmp 43) rfl g10 (ov L U D true) _ ROT (by rfl) (by rfl) z0d J10.out (z0a _ _ _ _) (z0a _ _ _ _) (oT L HLs.out _ _) ?_;intro w9 hk9 ht9 hs9))
 refine bodyPost_ret (v:=.agg (ov L U D true)) ?_ rfl ?_
 ·exact z05 z0d rfl _ _ g10 _ (by rfl) hk9 (z0a _ _ _ _)
 ·exact⟨.inl ⟨HN.out,L,D,HLs.out,rfl⟩,JT.out.mine ht9 Z10.out⟩
set_option maxRecDepth 100000 in
set_option maxHeartbeats 2000000 in
theorem x1s (P:List (List Nat))(a:Option Addr)(c:Nat)(o:RO)(L:Value)(B gu:Nat)(page:Int)(s:Sp)(deep:Int)(f:Nat)(w0 w:World)(hI:NIn P a w0 w B gu o L)(o1:RO)(k:Nat)(b:List Nat)(ho:z2f P o page=some (o1,k,b))(hth:1<deep∧b.length<126):
  Calls Tryz.prog 55 #[.agg (ov L (uv gu P.length) o.d false),.slice a P.length c,.int .i64 page,.agg (spc s),.int .i64 deep] w fun e w'=>z44 P B gu w (z1c P f o page s deep) e w':=by
 obtain⟨R,hR⟩:∃R,z1c P f o page s deep=R:=⟨_,rfl⟩
 have HN:Hid (R=none):=by show R=none;rw[←hR];exact x1q ho hth
 rw[hR];have HO:=zh ho;clear ho hR;unfold z44;obtain⟨n,hn⟩:∃n,P.length=n:=⟨_,rfl⟩
 have HI:=zh hI;have Hn:=zh hn;have oT:=fun(M:Value) (hM:IsS M) (d:Int) b=>z5l hM gu n d b
 have HLs:Hid (IsS L):=z06 hI.own;have C0:=zh (fun(wx:World) (h1:Below w0.heap.size w0 wx) (h2:Blk wx gu BLT (yl P.length o.u)) h3=>z3w P a c o L (z06 hI.own) gu page w0 wx h1 hI.pg h2 hI.gu0 h3);have C1:=zh (fun(wx:World) (h1:Below w0.heap.size w0 wx) (h2:Blk wx gu BLT (yl P.length o.u)) o1 k b h3=>z26 P a c o L (z06 hI.own) gu page w0 wx h1 hI.pg h2 hI.gu0 o1 k b h3);have HU0:=zh hI.use;rw[hn] at C0 C1 HU0⊢
 obtain⟨U,hUv⟩:∃U,uv gu n=U:=⟨_,rfl⟩
 rw[hUv] at oT C0 C1⊢
 have HUv:=zh hUv;have HUs:Hid (IsS U):=by show IsS U;rw[←hUv];exact⟨_,_,_,rfl⟩
 obtain⟨D,hD⟩:∃D,o.d=D:=⟨_,rfl⟩
 rw[hD] at C0 C1⊢
 have HD:=zh hD;clear hI hn hUv hD
 go_enter Tryz.func55,Tryz.ntmps55
 go_wp2_with (first
  | (refine z0e rfl ROT (.tmp 0) rfl (ov L U D false) (by rfl) ?_;intro g5 w1 hg5 hk5 hb5)
  | (refine z0e rfl RSP (.tmp 3) rfl (spc s) (by rfl) ?_;intro g8 w2 hg8 hk8 hb8)
  | (show wpList _ _ _ (⟨some 10,_,_,_,_,_⟩::_) _ _;refine wpList_alloc_arr rfl ROT rfl z1l ?_;intro g10 w3 hg10 hk10 hb10;have bx:Ext w w3:=hb5.trans ((hb8.mono hb5.size).trans (hb10.mono (znt hb5.size hb8.size)));have K5:=zh ((hk5.ext hb8).ext hb10);have K8:=zh (hk8.ext hb10);have K10:=zh hk10;have KU:=zh (HU0.out.ext bx);have KL:=zh (z1g HI.out.own bx);have KW:Hid (KT B gu w w3):=q51 bx;have B3:Hid (Below w0.heap.size w0 w3):=HI.out.hb0.trans (Below.mono bx HI.out.hb0.size);have N58:Hid (g8≠g5):=(by show _≠_;have:=hk5.lt;omega);have N510:Hid (g10≠g5):=(by show _≠_;have h1:=hk5.lt;have h2:=hb8.size;omega);have Z5:Hid (w.heap.size≤g5):=hg5;have Z10:Hid (w.heap.size≤g10):=(by show _≤_;have h1:=hb5.size;have h2:=hb8.size;omega);clear hg5 hk5 hb5 hg8 hk8 hb8 hg10 hk10 hb10 bx)
  | (show wpList _ _ _ (⟨some 24,_,_,_,_,_⟩::_) _ _;refine z0c rfl ROT (.tmp 5) rfl g5 0 (ov L U D false) (by rfl) z0d K5.out.at (z0a _ _ _ _) ?_))
 refine(C1.out w3 B3.out KU.out _ _ _ HO.out).mono ?_;rintro e w4 ⟨vl,rfl,hsv,hb8',hku,ht⟩;have M5:=zh (K5.out.turn ht (K5.out.ne KU.out (by decide)));have M8:=zh (K8.out.turn ht (K8.out.ne KU.out (by decide)));have M10:=zh (K10.out.turn ht (K10.out.ne KU.out (by decide)));have ML:=zh (z0q KL.out ht KU.out (by decide));have MU:=zh hku;have MS:=zh hsv;have HB8:=zh hb8';have MT:=zh (KW.out.gu ht);clear ht hku hsv hb8' C0 C1 K5 K8 K10 KU KL KW B3;obtain⟨av,cv,rfl,hsl⟩:∃av cv,vl=.slice av b.length cv∧True:=by obtain⟨x,y,hx,_⟩:=MS.out.arg;exact⟨x,y,hx,trivial⟩
 obtain⟨m,hm⟩:∃m,b.length=m:=⟨_,rfl⟩
 rw[hm] at hth MS⊢
 have d1:decide ((1:Int)<deep)=true:=zdt hth.1;have d2:decide ((m:Int)<126)=true:=zdt (by omega);have d3:decide (m<126)=true:=zdt hth.2;clear hth hm hsl
 go_wp2_with (first
  | (refine z0b rfl ROT (.tmp 5) (.tmp 28) rfl g5 (ov L U D false) _ ROT (by rfl) (by rfl) z0d M5.out (z0a _ _ _ _) (z0a _ _ _ _) (oT L HLs.out _ _) ?_;intro w5 hk ht5 hs5;have P5:=zh hk;have P8:=zh (M8.out.turn ht5 N58.out);have P10:=zh (M10.out.turn ht5 N510.out);have PU:=zh (MU.out.turn ht5 (fun e=>(M5.out.ne MU.out (by decide)) e.symm));have PL:=zh (z0q ML.out ht5 M5.out (by decide));have PT:=zh (MT.out.mine ht5 Z5.out);have PS:=zh (MS.out.turn ht5 (z25 M5.out HLs.out HUs.out));have q3:=hk.o3;have q2:=hk.o2;clear hk ht5 hs5 M5 M8 M10 MU ML MT MS)
  | (refine z0g rfl BLT (.tmp 42) (.const (.bool true)) rfl g5 3 (.bool true) (ov L U D false) ROT (z0r _) (by rfl) (by rfl) P5.out (by show 3<4;decide) ?_;intro wb hkb htb;have J5:Hid (Blk wb g5 ROT (ov L U D true)):=hkb;have J10:=zh (P10.out.turn htb N510.out);have JT:=zh (PT.out.mine htb Z5.out);clear hkb htb)
  | (show wpList _ _ _ (⟨some 43,_,_,_,_,_⟩::_) _ _;refine z0c rfl ROT (.tmp 5) rfl g5 0 (ov L U D true) (by rfl) z0d J5.out.at (z0a _ _ _ _) ?_)
  | (refine z0b rfl ROT (.tmp 10) (.tmp 43) rfl g10 (ov L U D true) _ ROT (by rfl) (by rfl) z0d J10.out (z0a _ _ _ _) (z0a _ _ _ _) (oT L HLs.out _ _) ?_;intro w9 hk9 ht9 hs9))
 refine bodyPost_ret (v:=.agg (ov L U D true)) ?_ rfl ?_
 ·exact z05 z0d rfl _ _ g10 _ (by rfl) hk9 (z0a _ _ _ _)
 ·exact⟨.inl ⟨HN.out,L,D,HLs.out,rfl⟩,JT.out.mine ht9 Z10.out⟩
set_option maxRecDepth 100000 in
set_option maxHeartbeats 2000000 in
theorem x1t (P:List (List Nat))(a:Option Addr)(c:Nat)(o:RO)(L:Value)(B gu:Nat)(page:Int)(s:Sp)(deep:Int)(f:Nat)(w0 w:World)(hI:NIn P a w0 w B gu o L)(o1:RO)(k:Nat)(b:List Nat)(ho:z2f P o page=some (o1,k,b))(hth:¬(1<deep∧b.length<126))(hk1:k≠1)(hk2:k≠2):
  Calls Tryz.prog 55 #[.agg (ov L (uv gu P.length) o.d false),.slice a P.length c,.int .i64 page,.agg (spc s),.int .i64 deep] w fun e w'=>z44 P B gu w (z1c P f o page s deep) e w':=by
 obtain⟨R,hR⟩:∃R,z1c P f o page s deep=R:=⟨_,rfl⟩
 have HN:Hid (R=none):=by show R=none;rw[←hR];exact x1r ho hk1 hk2
 rw[hR];have HO:=zh ho;have e1:((k:Int)==1)=false:=by rw[beq_eq_false_iff_ne];omega
 have e2:((k:Int)==2)=false:=by rw[beq_eq_false_iff_ne];omega
 clear ho hR hk1 hk2;unfold z44;obtain⟨n,hn⟩:∃n,P.length=n:=⟨_,rfl⟩
 have HI:=zh hI;have Hn:=zh hn;have oT:=fun(M:Value) (hM:IsS M) (d:Int) b=>z5l hM gu n d b
 have HLs:Hid (IsS L):=z06 hI.own;have C0:=zh (fun(wx:World) (h1:Below w0.heap.size w0 wx) (h2:Blk wx gu BLT (yl P.length o.u)) h3=>z3w P a c o L (z06 hI.own) gu page w0 wx h1 hI.pg h2 hI.gu0 h3);have C1:=zh (fun(wx:World) (h1:Below w0.heap.size w0 wx) (h2:Blk wx gu BLT (yl P.length o.u)) o1 k b h3=>z26 P a c o L (z06 hI.own) gu page w0 wx h1 hI.pg h2 hI.gu0 o1 k b h3);have HU0:=zh hI.use;rw[hn] at C0 C1 HU0⊢
 obtain⟨U,hUv⟩:∃U,uv gu n=U:=⟨_,rfl⟩
 rw[hUv] at oT C0 C1⊢
 have HUv:=zh hUv;have HUs:Hid (IsS U):=by show IsS U;rw[←hUv];exact⟨_,_,_,rfl⟩
 obtain⟨D,hD⟩:∃D,o.d=D:=⟨_,rfl⟩
 rw[hD] at C0 C1⊢
 have HD:=zh hD;clear hI hn hUv hD
 go_enter Tryz.func55,Tryz.ntmps55
 go_wp2_with (first
  | (refine z0e rfl ROT (.tmp 0) rfl (ov L U D false) (by rfl) ?_;intro g5 w1 hg5 hk5 hb5)
  | (refine z0e rfl RSP (.tmp 3) rfl (spc s) (by rfl) ?_;intro g8 w2 hg8 hk8 hb8)
  | (show wpList _ _ _ (⟨some 10,_,_,_,_,_⟩::_) _ _;refine wpList_alloc_arr rfl ROT rfl z1l ?_;intro g10 w3 hg10 hk10 hb10;have bx:Ext w w3:=hb5.trans ((hb8.mono hb5.size).trans (hb10.mono (znt hb5.size hb8.size)));have K5:=zh ((hk5.ext hb8).ext hb10);have K8:=zh (hk8.ext hb10);have K10:=zh hk10;have KU:=zh (HU0.out.ext bx);have KL:=zh (z1g HI.out.own bx);have KW:Hid (KT B gu w w3):=q51 bx;have B3:Hid (Below w0.heap.size w0 w3):=HI.out.hb0.trans (Below.mono bx HI.out.hb0.size);have N58:Hid (g8≠g5):=(by show _≠_;have:=hk5.lt;omega);have N510:Hid (g10≠g5):=(by show _≠_;have h1:=hk5.lt;have h2:=hb8.size;omega);have Z5:Hid (w.heap.size≤g5):=hg5;have Z10:Hid (w.heap.size≤g10):=(by show _≤_;have h1:=hb5.size;have h2:=hb8.size;omega);clear hg5 hk5 hb5 hg8 hk8 hb8 hg10 hk10 hb10 bx)
  | (show wpList _ _ _ (⟨some 24,_,_,_,_,_⟩::_) _ _;refine z0c rfl ROT (.tmp 5) rfl g5 0 (ov L U D false) (by rfl) z0d K5.out.at (z0a _ _ _ _) ?_))
 refine(C1.out w3 B3.out KU.out _ _ _ HO.out).mono ?_;rintro e w4 ⟨vl,rfl,hsv,hb8',hku,ht⟩;have M5:=zh (K5.out.turn ht (K5.out.ne KU.out (by decide)));have M8:=zh (K8.out.turn ht (K8.out.ne KU.out (by decide)));have M10:=zh (K10.out.turn ht (K10.out.ne KU.out (by decide)));have ML:=zh (z0q KL.out ht KU.out (by decide));have MU:=zh hku;have MS:=zh hsv;have HB8:=zh hb8';have MT:=zh (KW.out.gu ht);clear ht hku hsv hb8' C0 C1 K5 K8 K10 KU KL KW B3
 go_upto_region 2 with (first
  | (refine z0b rfl ROT (.tmp 5) (.tmp 28) rfl g5 (ov L U D false) _ ROT (by rfl) (by rfl) z0d M5.out (z0a _ _ _ _) (z0a _ _ _ _) (oT L HLs.out _ _) ?_;intro w5 hk ht5 hs5;have P5:=zh hk;have P8:=zh (M8.out.turn ht5 N58.out);have P10:=zh (M10.out.turn ht5 N510.out);have PU:=zh (MU.out.turn ht5 (fun e=>(M5.out.ne MU.out (by decide)) e.symm));have PL:=zh (z0q ML.out ht5 M5.out (by decide));have PT:=zh (MT.out.mine ht5 Z5.out);have PS:=zh (MS.out.turn ht5 (z25 M5.out HLs.out HUs.out));have q3:=hk.o3;have q2:=hk.o2;clear hk ht5 hs5 M5 M8 M10 MU ML MT MS))
 obtain⟨av,cv,rfl,hsl⟩:∃av cv,vl=.slice av b.length cv∧True:=by obtain⟨x,y,hx,_⟩:=PS.out.arg;exact⟨x,y,hx,trivial⟩
 obtain⟨m,hm⟩:∃m,b.length=m:=⟨_,rfl⟩
 rw[hm] at hth;have Hm:=zh hm;have Pv:=PS;rw[hm] at Pv⊢
 clear hsl hm
 go_cut [41] (fun s41 wx=>s41=.bool false∧w5=wx)
 case first=>
  by_cases hd1:1<deep
  ·have d1:decide ((1:Int)<deep)=true:=zdt hd1;have d2:decide ((m:Int)<126)=false:=zdf (by omega);have d3:decide (m<126)=false:=zdf (by omega);clear hth hd1;go_wp2;go_meet;exact⟨rfl,by first|trivial|rfl⟩
  ·have d1:decide ((1:Int)<deep)=false:=zdf hd1;clear hth hd1;go_wp2;go_meet;exact⟨rfl,by first|trivial|rfl⟩
 case rest=>
  obtain⟨rfl,rfl⟩:=hcut;clear hth
  go_wp2_with (first
   | (refine z0g rfl BLT (.tmp 45) (.const (.bool true)) rfl g5 3 (.bool true) (ov L U D false) ROT (z0r _) (by rfl) (by rfl) P5.out (by show 3<4;decide) ?_;intro wb hkb htb;have J5:Hid (Blk wb g5 ROT (ov L U D true)):=hkb;have J10:=zh (P10.out.turn htb N510.out);have JT:=zh (PT.out.mine htb Z5.out);clear hkb htb)
   | (show wpList _ _ _ (⟨some 213,_,_,_,_,_⟩::_) _ _;refine z0c rfl ROT (.tmp 5) rfl g5 0 (ov L U D true) (by rfl) z0d J5.out.at (z0a _ _ _ _) ?_)
   | (refine z0b rfl ROT (.tmp 10) (.tmp 213) rfl g10 (ov L U D true) _ ROT (by rfl) (by rfl) z0d J10.out (z0a _ _ _ _) (z0a _ _ _ _) (oT L HLs.out _ _) ?_;intro w9 hk9 ht9 hs9))
  refine bodyPost_ret (v:=.agg (ov L U D true)) ?_ rfl ?_
  ·exact z05 z0d rfl _ _ g10 _ (by rfl) hk9 (z0a _ _ _ _)
  ·exact⟨.inl ⟨HN.out,L,D,HLs.out,rfl⟩,JT.out.mine ht9 Z10.out⟩
end Go.Proofs.YtdgladhfibfdlaaGreatDoor
