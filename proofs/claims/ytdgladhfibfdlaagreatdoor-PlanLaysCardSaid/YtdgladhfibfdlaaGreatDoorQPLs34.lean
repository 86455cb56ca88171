/-
  Steps.
-/
import Derived.Test.YtdgladhfibfdlaaGreatDoorQPLs33
namespace Go.Proofs.YtdgladhfibfdlaaGreatDoor
open Go Go.RowKit
theorem x52 {P:List (List Nat)}{o:RO}{i:Int}(h:z2f P o i=none):i<2∨(2≤i∧(P.length:Int)≤i)∨(2≤i∧i<P.length∧o.u i.toNat=true)∨(2≤i∧i<P.length∧o.u i.toNat=false∧(opS (P.getD i.toNat [])).2.2≠0):=by
 unfold z2f at h;split at h
 ·rename_i h1
  by_cases h2:i<2
  ·exact .inl h2
  ·by_cases h3:(P.length:Int)≤i
   ·exact .inr (.inl ⟨by omega,h3⟩)
   ·rcases h1 with h1|h1|h1
    ·exact absurd h1 h2
    ·exact absurd h1 h3
    ·exact .inr (.inr (.inl ⟨by omega,by omega,h1⟩))
 ·rename_i h1
  split at h
  ·cases h
  ·rename_i h2
   refine .inr (.inr (.inr ⟨by omega,by omega,?_,h2⟩))
   cases hu:o.u i.toNat with
   | false=>rfl
   | true=>exact absurd (.inr (.inr hu)) h1
theorem z25 {w:World}{b:Nat}{t:TypeId}{L U:Value}{d:Int}{x:Bool}(h:Blk w b t (ov L U d x))(hL:IsS L)(hU:IsS U):y0v w b:=fun j y hy=>by
 obtain⟨a,m,c,rfl⟩:=hL;obtain⟨a2,m2,c2,rfl⟩:=hU;rw[h.cell] at hy;unfold ov at hy
 rcases j with _|_|_|_|j<;>simp at hy
set_option maxRecDepth 100000 in
set_option maxHeartbeats 2000000 in
theorem z3w (P:List (List Nat))(a:Option Addr)(c:Nat)(o:RO)(L:Value)(hL:IsS L)(gu:Nat)(i:Int)(w0 w:World)(hb0:Below w0.heap.size w0 w)(hpg:PgIn w0 a P)(hU:Blk w gu BLT (yl P.length o.u))(hgu:w0.heap.size≤gu)(hno:z2f P o i=none):
  Calls Tryz.prog 83 #[.agg (ov L (uv gu P.length) o.d false),.slice a P.length c,.int .i64 i] w fun e w'=>e=.returned (.tuple #[.agg (ov L (uv gu P.length) o.d true),.int .u8 0,nilS])∧Turn (fun x=>x=gu) w w':=by
 obtain⟨n,hn⟩:∃n,P.length=n:=⟨_,rfl⟩
 have hw:=x52 hno;clear hno;rw[hn] at hU hw⊢
 have HU:=zh hU;have HB0:=zh hb0;have HPg:=zh hpg;have Hgu:=zh hgu;have Hn:=zh hn;have oT:=fun d b=>z5l hL gu n d b
 replace hL:=zh hL;obtain⟨U,hUv⟩:∃U,uv gu n=U:=⟨_,rfl⟩
 have HUv:=zh hUv;rw[hUv] at oT⊢
 clear hb0 hpg hU hgu hn hUv
 rcases hw with h2|⟨h2,h3⟩|⟨h2,h3,hu⟩|⟨h2,h3,hu,h5⟩
 ·have d1:decide (i<2)=true:=zdt h2;clear h2
  go_enter Tryz.func83,Tryz.ntmps83
  go_wp2_with (first
   | (refine z0e rfl ROT (.tmp 0) rfl (ov L U o.d false) (by rfl) ?_;intro g3 w1 hg3 hk3 hb3)
   | (refine wpList_alloc_arr rfl ROT rfl z1l ?_;intro g6 w2 hg6 hk6 hb6;have K3:=zh (hk3.ext hb6);have K6:=zh hk6;have KU:=zh (HU.out.ext (hb3.trans (hb6.mono hb3.size)));have T1:Hid (Turn (fun x=>x=gu) w w2):=(q50 hb3).trans (q50 (hb6.mono (zlr _)));have N36:Hid (g6≠g3):=(by show _≠_;have:=hk3.lt;omega);have Z3:Hid (w.heap.size≤g3):=hg3;have Z6:Hid (w.heap.size≤g6):=(by show _≤_;have:=hb3.size;omega);clear hg3 hk3 hb3 hg6 hk6 hb6)
   | (refine z0g rfl BLT (.tmp 27) (.const (.bool true)) rfl g3 3 (.bool true) (ov L U o.d false) ROT (z0r _) (by rfl) (by rfl) K3.out (by show 3<4;decide) ?_;intro w5 hk3 ht3;have J3:Hid (Blk w5 g3 ROT (ov L U o.d true)):=hk3;have J6:=zh (K6.out.turn ht3 N36.out);have T5:Hid (Turn (fun x=>x=gu) w w5):=T1.out.step ht3 (fun i hi hlt=>by subst hi;have:=Z3.out;omega);clear hk3 ht3)
   | (refine z0c rfl ROT (.tmp 3) rfl g3 0 (ov L U o.d true) (by rfl) z0d J3.out.at (z0a _ _ _ _) ?_)
   | (refine z0b rfl ROT (.tmp 6) (.tmp 28) rfl g6 (ov L U o.d true) _ ROT (by rfl) (by rfl) z0d J6.out (z0a _ _ _ _) (z0a _ _ _ _) (oT _ _) ?_;intro w8 hk8 ht8 hs8))
  refine bodyPost_ret (v:=.tuple #[.agg (ov L U o.d true),.int .u8 0,nilS]) ?_ rfl ?_
  ·exact z24 z0d rfl _ _ g6 _ _ _ (by rfl) (by rfl) (by rfl) hk8 (z0a _ _ _ _)
  ·exact⟨rfl,T5.out.step ht8 (fun i hi hlt=>by subst hi;have:=Z6.out;omega)⟩
 ·have d1:decide (i<2)=false:=zdf (by omega);have d2:decide ((n:Int)≤i)=true:=zdt h3;clear h2 h3
  go_enter Tryz.func83,Tryz.ntmps83
  go_wp2_with (first
   | (refine z0e rfl ROT (.tmp 0) rfl (ov L U o.d false) (by rfl) ?_;intro g3 w1 hg3 hk3 hb3)
   | (refine wpList_alloc_arr rfl ROT rfl z1l ?_;intro g6 w2 hg6 hk6 hb6;have K3:=zh (hk3.ext hb6);have K6:=zh hk6;have KU:=zh (HU.out.ext (hb3.trans (hb6.mono hb3.size)));have T1:Hid (Turn (fun x=>x=gu) w w2):=(q50 hb3).trans (q50 (hb6.mono (zlr _)));have N36:Hid (g6≠g3):=(by show _≠_;have:=hk3.lt;omega);have Z3:Hid (w.heap.size≤g3):=hg3;have Z6:Hid (w.heap.size≤g6):=(by show _≤_;have:=hb3.size;omega);clear hg3 hk3 hb3 hg6 hk6 hb6)
   | (refine z0g rfl BLT (.tmp 27) (.const (.bool true)) rfl g3 3 (.bool true) (ov L U o.d false) ROT (z0r _) (by rfl) (by rfl) K3.out (by show 3<4;decide) ?_;intro w5 hk3 ht3;have J3:Hid (Blk w5 g3 ROT (ov L U o.d true)):=hk3;have J6:=zh (K6.out.turn ht3 N36.out);have T5:Hid (Turn (fun x=>x=gu) w w5):=T1.out.step ht3 (fun i hi hlt=>by subst hi;have:=Z3.out;omega);clear hk3 ht3)
   | (refine z0c rfl ROT (.tmp 3) rfl g3 0 (ov L U o.d true) (by rfl) z0d J3.out.at (z0a _ _ _ _) ?_)
   | (refine z0b rfl ROT (.tmp 6) (.tmp 28) rfl g6 (ov L U o.d true) _ ROT (by rfl) (by rfl) z0d J6.out (z0a _ _ _ _) (z0a _ _ _ _) (oT _ _) ?_;intro w8 hk8 ht8 hs8))
  refine bodyPost_ret (v:=.tuple #[.agg (ov L U o.d true),.int .u8 0,nilS]) ?_ rfl ?_
  ·exact z24 z0d rfl _ _ g6 _ _ _ (by rfl) (by rfl) (by rfl) hk8 (z0a _ _ _ _)
  ·exact⟨rfl,T5.out.step ht8 (fun i hi hlt=>by subst hi;have:=Z6.out;omega)⟩
 ·skip
  have d1:decide (i<2)=false:=zdf (by omega);have d2:decide ((n:Int)≤i)=false:=zdf (by omega);obtain⟨I,hI⟩:∃I:Nat,i=(I:Int):=⟨i.toNat,by omega⟩
  subst hI;rw[Int.toNat_natCast] at hu;have hlt:I<n:=by omega
  have i1:(0:Int)≤(I:Int):=by omega
  have i2:(I:Int)<(n:Int):=by omega
  clear h2 h3
  go_enter Tryz.func83,Tryz.ntmps83
  go_wp2_with (first
   | (refine z0e rfl ROT (.tmp 0) rfl (ov L U o.d false) (by rfl) ?_;intro g3 w1 hg3 hk3 hb3)
   | (refine wpList_alloc_arr rfl ROT rfl z1l ?_;intro g6 w2 hg6 hk6 hb6;have K3:=zh (hk3.ext hb6);have K6:=zh hk6;have KU:=zh (HU.out.ext (hb3.trans (hb6.mono hb3.size)));have T1:Hid (Turn (fun x=>x=gu) w w2):=(q50 hb3).trans (q50 (hb6.mono (zlr _)));have N36:Hid (g6≠g3):=(by show _≠_;have:=hk3.lt;omega);have Z3:Hid (w.heap.size≤g3):=hg3;have Z6:Hid (w.heap.size≤g6):=(by show _≤_;have:=hb3.size;omega);have q1:=K3.out.o1;rw[←HUv.out] at q1;unfold uv at q1;have qI:=KU.out.yn I hlt;rw[hu] at qI;clear hg3 hk3 hb3 hg6 hk6 hb6)
   | (refine z0g rfl BLT (.tmp 27) (.const (.bool true)) rfl g3 3 (.bool true) (ov L U o.d false) ROT (z0r _) (by rfl) (by rfl) K3.out (by show 3<4;decide) ?_;intro w5 hk3 ht3;have J3:Hid (Blk w5 g3 ROT (ov L U o.d true)):=hk3;have J6:=zh (K6.out.turn ht3 N36.out);have T5:Hid (Turn (fun x=>x=gu) w w5):=T1.out.step ht3 (fun i hi hlt=>by subst hi;have:=Z3.out;omega);clear hk3 ht3)
   | (refine z0c rfl ROT (.tmp 3) rfl g3 0 (ov L U o.d true) (by rfl) z0d J3.out.at (z0a _ _ _ _) ?_)
   | (refine z0b rfl ROT (.tmp 6) (.tmp 28) rfl g6 (ov L U o.d true) _ ROT (by rfl) (by rfl) z0d J6.out (z0a _ _ _ _) (z0a _ _ _ _) (oT _ _) ?_;intro w8 hk8 ht8 hs8))
  refine bodyPost_ret (v:=.tuple #[.agg (ov L U o.d true),.int .u8 0,nilS]) ?_ rfl ?_
  ·exact z24 z0d rfl _ _ g6 _ _ _ (by rfl) (by rfl) (by rfl) hk8 (z0a _ _ _ _)
  ·exact⟨rfl,T5.out.step ht8 (fun i hi hlt=>by subst hi;have:=Z6.out;omega)⟩
 ·skip
  have d1:decide (i<2)=false:=zdf (by omega);have d2:decide ((n:Int)≤i)=false:=zdf (by omega);obtain⟨I,hI⟩:∃I:Nat,i=(I:Int):=⟨i.toNat,by omega⟩
  subst hI;rw[Int.toNat_natCast] at hu h5;have hlt:I<n:=by omega
  have i1:(0:Int)≤(I:Int):=by omega
  have i2:(I:Int)<(n:Int):=by omega
  clear h2 h3;obtain⟨g,q,v,rfl,hcp,hv⟩:=HPg.out I (by rw[Hn.out];exact hlt);obtain⟨av,cv,rfl,hsv,hv1,hv2⟩:=hv.ex;have hv8:=hv.b8;have H80:=zh hv8;obtain⟨pb,hb⟩:∃b,P.getD I []=b:=⟨_,rfl⟩
  rw[hb] at hcp hsv hv1 hv8 H80 h5;obtain⟨m,hm⟩:∃m,pb.length=m:=⟨_,rfl⟩
  rw[hm] at hcp hv1;have HCp:=zh hcp;have HO:=zh (fun(w1:World) (h1:Below w0.heap.size w0 w1)=>y01 av m cv pb hm w1 hv8 hv1 hv2 (hsv.below h1 (zlr _)));clear hv hsv hv1 hv2 hv8 hcp hb hm;obtain⟨E,hE⟩:∃E,(opS pb).2.2=E:=⟨_,rfl⟩
  rw[hE] at HO h5;have d5:((E:Int) !=0)=true:=by simp;omega
  clear hE h5
  go_enter Tryz.func83,Tryz.ntmps83
  go_wp2_with (first
   | (refine z0e rfl ROT (.tmp 0) rfl (ov L U o.d false) (by rfl) ?_;intro g3 w1 hg3 hk3 hb3)
   | (refine wpList_alloc_arr rfl ROT rfl z1l ?_;intro g6 w2 hg6 hk6 hb6;have K3:=zh (hk3.ext hb6);have K6:=zh hk6;have KU:=zh (HU.out.ext (hb3.trans (hb6.mono hb3.size)));have T1:Hid (Turn (fun x=>x=gu) w w2):=(q50 hb3).trans (q50 (hb6.mono (zlr _)));have N36:Hid (g6≠g3):=(by show _≠_;have:=hk3.lt;omega);have Z3:Hid (w.heap.size≤g3):=hg3;have Z6:Hid (w.heap.size≤g6):=(by show _≤_;have:=hb3.size;omega);have q1:=K3.out.o1;rw[←HUv.out] at q1;unfold uv at q1;have qI:=KU.out.yn I hlt;rw[hu] at qI;clear hg3 hk3 hb3 hg6 hk6 hb6)
   | (refine z0g rfl BLT (.tmp 32) (.const (.bool true)) rfl gu I (.bool true) (yl n o.u) BLT (z0r _) (by rfl) (by rfl) KU.out (by rw[z90];exact hlt) ?_;intro w3 hku htu;have e3:g3≠gu:=(K3.out.ne KU.out (by decide));have e6:g6≠gu:=(K6.out.ne KU.out (by decide));have L3:=zh (K3.out.turn htu e3);have L6:=zh (K6.out.turn htu e6);rw[q0w n o.u I hlt] at hku;have LU:=zh hku;have T3:Hid (Turn (fun x=>x=gu) w w3):=T1.out.step htu (fun i hi hlt=>hi);have B3:Hid (Below w0.heap.size w0 w3):=HB0.out.trans (T3.out.below HB0.out.size (fun i hi=>by subst hi;exact Hgu.out));clear hku htu e3 e6 q1 qI;have qp:w3.cell? ⟨g,q+I,none⟩=some (.slice av m cv):=(by rw[B3.out.cell (p:=⟨g,q+I,none⟩) (block_lt_of_cell HCp.out)];exact HCp.out)))
  refine(HO.out w3 B3.out).mono ?_;rintro e w4 ⟨u,rfl,hsu,hb4⟩;have M3:=zh (L3.out.ext hb4);have M6:=zh (L6.out.ext hb4);have MU:=zh (LU.out.ext hb4);have T4:Hid (Turn (fun x=>x=gu) w w4):=T3.out.trans (q50 hb4);have HSu:=zh hsu;clear qp hb4 hsu L3 L6 LU T3 B3 HO
  go_wp2_with (first
   | (refine z0g rfl BLT (.tmp 44) (.const (.bool true)) rfl g3 3 (.bool true) (ov L U o.d false) ROT (z0r _) (by rfl) (by rfl) M3.out (by show 3<4;decide) ?_;intro w5 hk3 ht3;have J3:Hid (Blk w5 g3 ROT (ov L U o.d true)):=hk3;have J6:=zh (M6.out.turn ht3 N36.out);have T5:Hid (Turn (fun x=>x=gu) w w5):=T4.out.step ht3 (fun i hi hlt=>by subst hi;have:=Z3.out;omega);clear hk3 ht3)
   | (refine z0c rfl ROT (.tmp 3) rfl g3 0 (ov L U o.d true) (by rfl) z0d J3.out.at (z0a _ _ _ _) ?_)
   | (refine z0b rfl ROT (.tmp 6) (.tmp 45) rfl g6 (ov L U o.d true) _ ROT (by rfl) (by rfl) z0d J6.out (z0a _ _ _ _) (z0a _ _ _ _) (oT _ _) ?_;intro w8 hk8 ht8 hs8))
  refine bodyPost_ret (v:=.tuple #[.agg (ov L U o.d true),.int .u8 0,nilS]) ?_ rfl ?_
  ·exact z24 z0d rfl _ _ g6 _ _ _ (by rfl) (by rfl) (by rfl) hk8 (z0a _ _ _ _)
  ·exact⟨rfl,T5.out.step ht8 (fun i hi hlt=>by subst hi;have:=Z6.out;omega)⟩
set_option maxRecDepth 100000 in
set_option maxHeartbeats 2000000 in
theorem z26 (P:List (List Nat))(a:Option Addr)(c:Nat)(o:RO)(L:Value)(hL:IsS L)(gu:Nat)(i:Int)(w0 w:World)(hb0:Below w0.heap.size w0 w)(hpg:PgIn w0 a P)(hU:Blk w gu BLT (yl P.length o.u))(hgu:w0.heap.size≤gu)(o1:RO)(k:Nat)(b:List Nat)(hyes:z2f P o i=some (o1,k,b)):
  Calls Tryz.prog 83 #[.agg (ov L (uv gu P.length) o.d false),.slice a P.length c,.int .i64 i] w fun e w'=>∃v,e=.returned (.tuple #[.agg (ov L (uv gu P.length) o.d false),.int .u8 (k:Nat),v])∧Sl w' v b∧B8 b∧Blk w' gu BLT (yl P.length o1.u)∧Turn (fun x=>x=gu) w w':=by
 obtain⟨n,hn⟩:∃n,P.length=n:=⟨_,rfl⟩
 obtain⟨h2,h3,hu,h5,e1,e2,e3⟩:=z20 P hyes;clear hyes;rw[hn] at hU h3⊢
 have HU:=zh hU;have HB0:=zh hb0;have HPg:=zh hpg;have Hgu:=zh hgu;have Hn:=zh hn;have oT:=fun d b=>z5l hL gu n d b
 replace hL:=zh hL;obtain⟨U,hUv⟩:∃U,uv gu n=U:=⟨_,rfl⟩
 have HUv:=zh hUv;rw[hUv] at oT⊢
 clear hb0 hpg hU hgu hn hUv;have d1:decide (i<2)=false:=zdf (by omega);have d2:decide ((n:Int)≤i)=false:=zdf (by omega);obtain⟨I,hI⟩:∃I:Nat,i=(I:Int):=⟨i.toNat,by omega⟩
 subst hI;rw[Int.toNat_natCast] at hu h5 e1 e2 e3;have hlt:I<n:=by omega
 have i1:(0:Int)≤(I:Int):=by omega
 have i2:(I:Int)<(n:Int):=by omega
 clear h2 h3;obtain⟨g,q,v,rfl,hcp,hv⟩:=HPg.out I (by rw[Hn.out];exact hlt);obtain⟨av,cv,rfl,hsv,hv1,hv2⟩:=hv.ex;have hv8:=hv.b8;have H80:=zh hv8;obtain⟨pb,hb⟩:∃b,P.getD I []=b:=⟨_,rfl⟩
 rw[hb] at hcp hsv hv1 hv8 H80 h5 e2 e3;obtain⟨m,hm⟩:∃m,pb.length=m:=⟨_,rfl⟩
 rw[hm] at hcp hv1;have HCp:=zh hcp;have HO:=zh (fun(w1:World) (h1:Below w0.heap.size w0 w1)=>y01 av m cv pb hm w1 hv8 hv1 hv2 (hsv.below h1 (zlr _)));clear hv hsv hv1 hv2 hv8 hcp hb hm;have H8:Hid (B8 b):=by show B8 b;rw[e3];exact(q4b H80.out).2.1
 rw[h5,←e2,←e3] at HO;subst e1;dsimp only;clear h5 e2 e3 H80
 go_enter Tryz.func83,Tryz.ntmps83
 go_wp2_with (first
  | (refine z0e rfl ROT (.tmp 0) rfl (ov L U o.d false) (by rfl) ?_;intro g3 w1 hg3 hk3 hb3)
  | (refine wpList_alloc_arr rfl ROT rfl z1l ?_;intro g6 w2 hg6 hk6 hb6;have K3:=zh (hk3.ext hb6);have K6:=zh hk6;have KU:=zh (HU.out.ext (hb3.trans (hb6.mono hb3.size)));have T1:Hid (Turn (fun x=>x=gu) w w2):=(q50 hb3).trans (q50 (hb6.mono (zlr _)));have N36:Hid (g6≠g3):=(by show _≠_;have:=hk3.lt;omega);have Z3:Hid (w.heap.size≤g3):=hg3;have Z6:Hid (w.heap.size≤g6):=(by show _≤_;have:=hb3.size;omega);have q1:=K3.out.o1;rw[←HUv.out] at q1;unfold uv at q1;have qI:=KU.out.yn I hlt;rw[hu] at qI;clear hg3 hk3 hb3 hg6 hk6 hb6)
  | (refine z0g rfl BLT (.tmp 32) (.const (.bool true)) rfl gu I (.bool true) (yl n o.u) BLT (z0r _) (by rfl) (by rfl) KU.out (by rw[z90];exact hlt) ?_;intro w3 hku htu;have e3:g3≠gu:=(K3.out.ne KU.out (by decide));have e6:g6≠gu:=(K6.out.ne KU.out (by decide));have L3:=zh (K3.out.turn htu e3);have L6:=zh (K6.out.turn htu e6);rw[q0w n o.u I hlt] at hku;have LU:=zh hku;have T3:Hid (Turn (fun x=>x=gu) w w3):=T1.out.step htu (fun i hi hlt=>hi);have B3:Hid (Below w0.heap.size w0 w3):=HB0.out.trans (T3.out.below HB0.out.size (fun i hi=>by subst hi;exact Hgu.out));clear hku htu e3 e6 q1 qI;have qp:w3.cell? ⟨g,q+I,none⟩=some (.slice av m cv):=(by rw[B3.out.cell (p:=⟨g,q+I,none⟩) (block_lt_of_cell HCp.out)];exact HCp.out)))
 refine(HO.out w3 B3.out).mono ?_;rintro e w4 ⟨u,rfl,hsu,hb4⟩;have M3:=zh (L3.out.ext hb4);have M6:=zh (L6.out.ext hb4);have MU:=zh (LU.out.ext hb4);have T4:Hid (Turn (fun x=>x=gu) w w4):=T3.out.trans (q50 hb4);have HSu:=zh hsu;clear qp hb4 hsu L3 L6 LU T3 B3 HO
 go_wp2_with (first
  | (refine z0c rfl ROT (.tmp 3) rfl g3 0 (ov L U o.d false) (by rfl) z0d M3.out.at (z0a _ _ _ _) ?_)
  | (refine z0b rfl ROT (.tmp 6) (.tmp 46) rfl g6 (ov L U o.d false) _ ROT (by rfl) (by rfl) z0d M6.out (z0a _ _ _ _) (z0a _ _ _ _) (oT _ _) ?_;intro w8 hk8 ht8 hs8))
 refine bodyPost_ret (v:=.tuple #[.agg (ov L U o.d false),.int .u8 (k:Nat),u]) ?_ rfl ?_
 ·exact z24 z0d rfl _ _ g6 _ _ _ (by rfl) (by rfl) (by rfl) hk8 (z0a _ _ _ _)
 ·exact⟨u,rfl,HSu.out.turn ht8 (z25 M6.out ⟨_,_,_,rfl⟩ ⟨_,_,_,rfl⟩),H8.out,MU.out.turn ht8 (fun e=>(M6.out.ne MU.out (by decide)) e.symm),T4.out.step ht8 (fun i hi hlt=>by subst hi;have:=Z6.out;omega)⟩
theorem x53 {l:List Nat}{ks:List ByteArray}{is:List Int}{S:RS}(h:StF l ks is S)(hw:S.wr=true):z2r l=none:=by
 rcases h with ⟨h1,_⟩|⟨_,_,h2⟩
 ·rw[hw] at h1;cases h1
 ·exact h2
theorem x9a {l:List Nat}{ks:List ByteArray}{is:List Int}{L:List Nat}(h:StF l ks is ⟨L,false⟩)(h0:L≠[]):
  ((z0k ⟨L,false⟩ 40).2.wr=true→z2r l=none)∧((z0k ⟨L,false⟩ 40).2.l.length<2→z2r l=none)∧
  (2≤(z0k ⟨L,false⟩ 40).2.l.length→StF l (ks++[bstr (z0k ⟨L,false⟩ 40).1]) (is++[(((z0k ⟨L,false⟩ 40).2.l.getD 0 0*256+(z0k ⟨L,false⟩ 40).2.l.getD 1 0:Nat):Int)]) ⟨(z0k ⟨L,false⟩ 40).2.l.drop 2,false⟩∧((z0k ⟨L,false⟩ 40).2.l.drop 2).length<L.length):=by
 obtain⟨hn,hlt⟩:=x8w h h0;have hsh:=y0d (S:=⟨L,false⟩) h0;refine⟨fun hw=>x53 hn ?_,fun hs=>x53 hn ?_,fun h2=> ?_⟩
 ·rw[z6g hw,q0s]
 ·have:=z9t (z0k ⟨L,false⟩ 40).2.wr hs;rw[show(⟨(z0k ⟨L,false⟩ 40).2.l,(z0k ⟨L,false⟩ 40).2.wr⟩:RS)=(z0k ⟨L,false⟩ 40).2 from rfl] at this;rw[this]
 ·have:=y9j (z0k ⟨L,false⟩ 40).2.wr h2;rw[show(⟨(z0k ⟨L,false⟩ 40).2.l,(z0k ⟨L,false⟩ 40).2.wr⟩:RS)=(z0k ⟨L,false⟩ 40).2 from rfl] at this;rw[this] at hn hlt;exact⟨hn,hlt⟩
structure RfI (w wr:World) (rb p:Nat) (ks:List ByteArray) (is:List Int) (rv u v:Value):Prop where
 sb:RSB wr rb RFT rv false
 fk:PB wr p RFK u v
 ku:wr.ownsRow w.heap.size STY 1 u ks.length (sv ks)
 kv:wr.ownsRow w.heap.size ITY 1 v is.length (iv is)
 res:PB wr w.heap.size RFK zF zF
 below:Below w.heap.size w wr
 hp:w.heap.size<p
 hrb:w.heap.size≤rb
theorem RfI.ext {w wr w':World}{rb p:Nat}{ks:List ByteArray}{is:List Int}{rv u v:Value}(h:RfI w wr rb p ks is rv u v)(hb:Below wr.heap.size wr w'):RfI w w' rb p ks is rv u v:=
 ⟨h.sb.below hb h.sb.lt,h.fk.ext hb,z0x h.ku hb (zlr _),z0x h.kv hb (zlr _),h.res.ext hb,h.below.trans (hb.mono h.below.size),h.hp,h.hrb⟩
theorem x54 {w:World}{b p:Nat}{T T2:TypeId}{x u v:Value}{y:Bool}(h:RSB w b T x y)(k:PB w p T2 u v)(hT:T≠T2):b≠p:=fun e=>by
 subst e;have h':w.heap[b]? =_:=h;have k':w.heap[b]? =_:=k;rw[h'] at k';exact hT (by cases k';rfl)
theorem RfI.keys {w wr w5:World}{rb p:Nat}{ks:List ByteArray}{is:List Int}{rv u v u':Value}{y:ByteArray}(h:RfI w wr rb p ks is rv u v)(hg:wr.grownBy w5 u.ownBlock)(ho:w5.ownsRow w.heap.size STY 1 u' (ks++[y]).length (sv (ks++[y]))):
  RfI w (w5.setCell ⟨p,0,none⟩ u') rb p (ks++[y]) is rv u' v∧PB w5 p RFK u v∧Turn (fun i=>w.heap.size≤i) wr (w5.setCell ⟨p,0,none⟩ u')∧
  (∀b2 x z,RSB wr b2 RFT x z→RSB (w5.setCell ⟨p,0,none⟩ u') b2 RFT x z):=by
 have t5:=z22 hg;have ts:=z3k w5 p 0 u';have k5:PB w5 p RFK u v:=h.fk.turn t5 (fun e=>z04 h.ku h.fk (by decide) p e rfl);have v5:w5.ownsRow w.heap.size ITY 1 v is.length (iv is):=z1r h.kv t5 (fun i hi e=>y5p h.ku h.kv (by decide) i e hi);have z5:PB w5 w.heap.size RFK zF zF:=h.res.turn t5 (fun e=>z04 h.ku h.res (by decide) _ e rfl);have sb5:∀b2 x z,RSB wr b2 RFT x z→RSB w5 b2 RFT x z:=fun b2 x z hs=>hs.turn t5 (fun e=>z04 h.ku hs (by decide) _ e rfl)
 have sb6:∀b2 x z,RSB wr b2 RFT x z→RSB (w5.setCell ⟨p,0,none⟩ u') b2 RFT x z:=fun b2 x z hs=>(sb5 b2 x z hs).turn ts (x54 (sb5 b2 x z hs) k5 (by decide))
 have b5:Below w.heap.size w w5:=h.below.grown hg h.below.size (fun i hi=>y02 h.ku i hi);have hp:=h.hp;refine⟨⟨sb6 _ _ _ h.sb,k5.set0 u',z1r ho ts (fun i hi e=>z04 ho k5 (by decide) i hi e),z1r v5 ts (fun i hi e=>z04 v5 k5 (by decide) i hi e),z5.turn ts (fun e=>by omega),b5.setCell (p:=⟨p,0,none⟩) (by show w.heap.size≤p;omega) u',h.hp,h.hrb⟩,k5,?_,sb6⟩;exact(t5.mono (fun i hi _=>y02 h.ku i hi)).trans (ts.mono (fun i hi _=>by subst hi;omega))
theorem RfI.pages {w wr w5:World}{rb p:Nat}{ks:List ByteArray}{is:List Int}{rv u v v':Value}{y:Int}(h:RfI w wr rb p ks is rv u v)(hg:wr.grownBy w5 v.ownBlock)(ho:w5.ownsRow w.heap.size ITY 1 v' (is++[y]).length (iv (is++[y]))):
  RfI w (w5.setCell ⟨p,1,none⟩ v') rb p ks (is++[y]) rv u v'∧PB w5 p RFK u v∧Turn (fun i=>w.heap.size≤i) wr (w5.setCell ⟨p,1,none⟩ v')∧
  (∀b2 x z,RSB wr b2 RFT x z→RSB (w5.setCell ⟨p,1,none⟩ v') b2 RFT x z):=by
 have t5:=z22 hg;have ts:=z3k w5 p 1 v';have k5:PB w5 p RFK u v:=h.fk.turn t5 (fun e=>z04 h.kv h.fk (by decide) p e rfl);have u5:w5.ownsRow w.heap.size STY 1 u ks.length (sv ks):=z1r h.ku t5 (fun i hi e=>y5p h.kv h.ku (by decide) i e hi);have z5:PB w5 w.heap.size RFK zF zF:=h.res.turn t5 (fun e=>z04 h.kv h.res (by decide) _ e rfl);have sb5:∀b2 x z,RSB wr b2 RFT x z→RSB w5 b2 RFT x z:=fun b2 x z hs=>hs.turn t5 (fun e=>z04 h.kv hs (by decide) _ e rfl)
 have sb6:∀b2 x z,RSB wr b2 RFT x z→RSB (w5.setCell ⟨p,1,none⟩ v') b2 RFT x z:=fun b2 x z hs=>(sb5 b2 x z hs).turn ts (x54 (sb5 b2 x z hs) k5 (by decide))
 have b5:Below w.heap.size w w5:=h.below.grown hg h.below.size (fun i hi=>y02 h.kv i hi);have hp:=h.hp;refine⟨⟨sb6 _ _ _ h.sb,k5.set1 v',z1r u5 ts (fun i hi e=>z04 u5 k5 (by decide) i hi e),z1r ho ts (fun i hi e=>z04 ho k5 (by decide) i hi e),z5.turn ts (fun e=>by omega),b5.setCell (p:=⟨p,1,none⟩) (by show w.heap.size≤p;omega) v',h.hp,h.hrb⟩,k5,?_,sb6⟩;exact(t5.mono (fun i hi _=>y02 h.kv i hi)).trans (ts.mono (fun i hi _=>by subst hi;omega))
theorem RfI.reader {w wr:World}{rb p:Nat}{ks:List ByteArray}{is:List Int}{rv u v:Value}(h:RfI w wr rb p ks is rv u v)(rv':Value):
  RfI w ((wr.setCell ⟨rb,0,none⟩ rv').setCell ⟨rb,1,none⟩ (.bool false)) rb p ks is rv' u v∧Turn (fun i=>w.heap.size≤i) wr ((wr.setCell ⟨rb,0,none⟩ rv').setCell ⟨rb,1,none⟩ (.bool false)):=by
 have ts:=z0u wr rb rv' (.bool false);have hrb:=h.hrb;have tw:Turn (fun i=>w.heap.size≤i) wr ((wr.setCell ⟨rb,0,none⟩ rv').setCell ⟨rb,1,none⟩ (.bool false)):=ts.mono (fun i hi _=>by subst hi;omega);refine⟨⟨(h.sb.set0 rv').set1 false,h.fk.turn ts (fun e=>x54 h.sb h.fk (by decide) e.symm),z1r h.ku ts (fun i hi e=>z04 h.ku h.sb (by decide) i hi e),z1r h.kv ts (fun i hi e=>z04 h.kv h.sb (by decide) i hi e),h.res.turn ts (fun e=>x54 h.sb h.res (by decide) e.symm),h.below.trans (tw.below h.below.size (fun i hi=>hi)),h.hp,h.hrb⟩,tw⟩
theorem q0x {w:World}{g o n c B:Nat}{L:List Nat}(hc:Cs w g o L)(hn:L.length=n)(h2:2≤n)(hnc:n≤c)(hcm:c≤maxLen)(hg:g<B):
  (2<c→Sl w (.slice (some ⟨g,o+2,none⟩) (n-2) (c-2)) (L.drop 2)∧Lo (.slice (some ⟨g,o+2,none⟩) (n-2) (c-2)) B)∧(c=2→Sl w (.slice (some ⟨g,o,none⟩) 0 0) (L.drop 2)∧n=2∧Lo (.slice (some ⟨g,o,none⟩) 0 0) B):=by
 refine⟨fun h=>⟨y2t hc hn h2 hnc hcm,fun g' o' n' c' e h0=> ?_⟩,fun h=> ?_⟩
 ·cases e;exact hg
 ·have e2:n=2:=by omega
  exact⟨y9d (by omega) (zlr 2),e2,Lo.empty _ _ _⟩
end Go.Proofs.YtdgladhfibfdlaaGreatDoor
